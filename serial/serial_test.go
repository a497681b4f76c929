package serial_test

import (
	"math"
	"math/big"
	"math/rand"
	"testing"

	"signet/serial"
)

const last = math.MaxUint32

// edges: numbers at which something changes, and their neighbours.
func edges() []uint32 {
	var l []uint32
	for _, middle := range []uint32{0, 1 << 30, 1 << 31, 3 << 30} {
		for step := range uint32(9) {
			l = append(l, middle+step-4)
		}
	}
	return l
}

// pairs: all of edges, numbers that are just so far apart, and any.
func pairs() [][2]uint32 {
	r := rand.New(rand.NewSource(13))
	var l [][2]uint32
	for _, a := range edges() {
		for _, b := range edges() {
			l = append(l, [2]uint32{a, b})
		}
	}
	for range 5000 {
		a := r.Uint32()
		l = append(l, [2]uint32{a, r.Uint32()})
		for _, apart := range edges() {
			l = append(l, [2]uint32{a, a + apart})
		}
	}
	return l
}

// order: RFC 1982, 3.2, in its own words, of numbers that don't come round.
func order(a, b uint32) (int, bool) {
	x, y := int64(a), int64(b)
	const half = 1 << 31
	switch {
	case x == y:
		return 0, true
	case x < y && y-x < half || x > y && x-y > half:
		return -1, true
	case x < y && y-x > half || x > y && x-y < half:
		return 1, true
	}
	return 0, false
}

// TestCompare (P13.1): against the RFC's words; the other way round it is the opposite.
func TestCompare(t *testing.T) {
	for _, x := range pairs() {
		a, b := x[0], x[1]
		c, ok := serial.Compare(a, b)
		if want, told := order(a, b); c != want || ok != told {
			t.Fatalf("P13.1: Compare(%d, %d): %d, %v, not %d, %v", a, b, c, ok, want, told)
		}
		if back, told := serial.Compare(b, a); back != -c || told != ok {
			t.Fatalf("P13.1: Compare(%d, %d): %d, %v, and back %d, %v", a, b, c, ok, back, told)
		}
	}
}

// TestCompareKnown (P13.1): the chapter's example, and the edges by hand.
func TestCompareKnown(t *testing.T) {
	rows := []struct {
		a, b uint32
		c    int
		ok   bool
	}{
		{last, 0, -1, true}, {0, last, 1, true}, {0, 0, 0, true}, {last, last, 0, true}, {0, 1, -1, true}, {1, 0, 1, true},
		{0, 1<<31 - 1, -1, true}, {0, 1 << 31, 0, false}, {0, 1<<31 + 1, 1, true},
		{1 << 31, 0, 0, false}, {1<<31 - 1, last, 0, false}, {last, 1<<31 - 1, 0, false},
		{last, 1<<31 - 2, -1, true}, {last, 1 << 31, 1, true},
	}
	for _, x := range rows {
		if c, ok := serial.Compare(x.a, x.b); c != x.c || ok != x.ok {
			t.Errorf("P13.1: Compare(%d, %d): %d, %v, not %d, %v", x.a, x.b, c, ok, x.c, x.ok)
		}
	}
}

// TestAdd (P13.1): the sum that comes round, up to 2^31 - 1; beyond that a, and false. What was added is ahead by Compare.
func TestAdd(t *testing.T) {
	all := big.NewInt(1 << 32)
	for _, x := range pairs() {
		a, n := x[0], x[1]
		got, ok := serial.Add(a, n)
		if n > 1<<31-1 {
			if got != a || ok {
				t.Fatalf("P13.1: Add(%d, %d): %d, %v", a, n, got, ok)
			}
			continue
		}
		sum := new(big.Int).Add(big.NewInt(int64(a)), big.NewInt(int64(n)))
		if want := sum.Mod(sum, all).Uint64(); uint64(got) != want || !ok {
			t.Fatalf("P13.1: Add(%d, %d): %d, %v, not %d", a, n, got, ok, want)
		}
		if c, ok := serial.Compare(got, a); !ok || c != min(int(n), 1) {
			t.Fatalf("P13.1: Add(%d, %d) is not ahead: %d, %v", a, n, c, ok)
		}
	}
}

// TestNext (P13.1, P13.3): a and 1, never 0, and greater by Compare.
func TestNext(t *testing.T) {
	known := [][2]uint32{{0, 1}, {1, 2}, {1<<31 - 1, 1 << 31}, {1 << 31, 1<<31 + 1}, {last - 1, last}, {last, 1}}
	for _, x := range known {
		if got := serial.Next(x[0]); got != x[1] {
			t.Errorf("P13.1: Next(%d): %d, not %d", x[0], got, x[1])
		}
	}
	for _, x := range pairs() {
		a := x[0]
		next := serial.Next(a)
		if next == 0 || a != last && uint64(next) != uint64(a)+1 {
			t.Fatalf("P13.1: Next(%d): %d", a, next)
		}
		if c, ok := serial.Compare(next, a); c != 1 || !ok {
			t.Fatalf("P13.3: Next(%d) is not greater: %d, %v", a, c, ok)
		}
	}
}

// TestPlus (P13.2): the sum, at most the last time.
func TestPlus(t *testing.T) {
	known := [][3]uint32{
		{0, 0, 0}, {1, 2, 3}, {last - 1, 0, last - 1}, {last - 1, 1, last}, {last - 1, 2, last}, {last, 0, last}, {0, last, last},
		{1, last, last}, {last, last, last}, {1 << 31, 1 << 31, last}, {1 << 31, 1<<31 - 1, last}, {1 << 31, 1<<31 - 2, last - 1},
	}
	for _, x := range known {
		if got := serial.Plus(x[0], x[1]); got != x[2] {
			t.Errorf("P13.2: Plus(%d, %d): %d, not %d", x[0], x[1], got, x[2])
		}
	}
	for _, x := range pairs() {
		if got, want := serial.Plus(x[0], x[1]), min(uint64(x[0])+uint64(x[1]), last); uint64(got) != want {
			t.Fatalf("P13.2: Plus(%d, %d): %d, not %d", x[0], x[1], got, want)
		}
	}
}

// TestDue (P13.2): times don't come round.
func TestDue(t *testing.T) {
	rows := []struct {
		now, at uint32
		due     bool
	}{
		{0, 0, true}, {5, 5, true}, {4, 5, false}, {6, 5, true}, {last, last, true}, {last, 0, true}, {0, last, false},
		{1 << 31, 0, true}, {0, 1 << 31, false}, {0, 1<<31 + 1, false}, {1<<31 + 1, 0, true}, {last - 1, last, false},
	}
	for _, x := range rows {
		if got := serial.Due(x.now, x.at); got != x.due {
			t.Errorf("P13.2: Due(%d, %d): %v", x.now, x.at, got)
		}
	}
	for _, x := range pairs() {
		if serial.Due(x[0], x[1]) != (int64(x[0])-int64(x[1]) >= 0) {
			t.Fatalf("P13.2: Due(%d, %d)", x[0], x[1])
		}
	}
}
