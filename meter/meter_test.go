package meter_test

import (
	"math"
	"math/big"
	"math/rand"
	"slices"
	"testing"

	"signet/meter"
)

// none: the bits of the one NaN that is told.
const none = 0x7ff8000000000001

// minus: -0, which no literal is.
func minus() float64 { return math.Copysign(0, -1) }

func inf() float64 { return math.Inf(1) }

// nans: NaNs of both signs, quiet and signalling ones, with few and all bits.
func nans() []float64 {
	var l []float64
	for _, b := range []uint64{none, 0x7ff8000000000000, 0xfff8000000000000, 0xfff8000000000001, 0x7ff0000000000001, 0xfff0000000000001, 0x7fffffffffffffff, 0xffffffffffffffff, 0x7ff4000000000000} {
		l = append(l, math.Float64frombits(b))
	}
	return l
}

// rising: numbers from the least to the greatest, each once, neighbours among
// them: about the ends, about 0, about 1, where numbers begin to be thin.
func rising() []float64 {
	above := []float64{
		0, math.SmallestNonzeroFloat64, 2 * math.SmallestNonzeroFloat64,
		0x1p-1022 - math.SmallestNonzeroFloat64, 0x1p-1022, 1e-300, 0.1,
		0.5, math.Nextafter(1, 0), 1, math.Nextafter(1, 2), 1.5, 2, 1e15,
		1<<53 - 1, 1 << 53, 1<<53 + 2, 1e300, math.Nextafter(math.MaxFloat64, 0), math.MaxFloat64, inf(),
	}
	var l []float64
	for _, x := range slices.Backward(above) {
		l = append(l, -x)
	}
	l[len(l)-1] = minus()
	return append(l, above...)
}

// key: a whole number that rises as the chapter's order does, from the bits.
func key(x float64) uint64 {
	b := math.Float64bits(x)
	switch {
	case x != x:
		return math.MaxUint64
	case b>>63 == 1:
		return ^b
	}
	return b | 1<<63
}

// wantOrder: by the keys.
func wantOrder(a, b float64) int {
	switch {
	case key(a) < key(b):
		return -1
	case key(a) > key(b):
		return 1
	}
	return 0
}

// anyFloat: any bits, or small numbers of which many are alike.
func anyFloat(r *rand.Rand) float64 {
	switch r.Intn(4) {
	case 0:
		return math.Float64frombits(r.Uint64())
	case 1:
		l := append(rising(), nans()...)
		return l[r.Intn(len(l))]
	case 2:
		return float64(r.Intn(9) - 4)
	}
	return r.NormFloat64()
}

func anyFloats(r *rand.Rand, n int) []float64 {
	l := make([]float64, n)
	for i := range l {
		l[i] = anyFloat(r)
	}
	return l
}

// same: bit by bit, so that -0, 0 and each NaN are unlike.
func same(a, b float64) bool { return math.Float64bits(a) == math.Float64bits(b) }

func sameList(a, b []float64) bool { return slices.EqualFunc(a, b, same) }

// near: x as a number of 53 bits, each sum and product of which is rounded.
func near(x float64) *big.Float { return new(big.Float).SetPrec(53).SetFloat64(x) }

func near0() *big.Float { return new(big.Float).SetPrec(53) }

func isBits(t *testing.T, promise, what string, got, want float64) {
	t.Helper()
	if want != want {
		want = math.Float64frombits(none)
	}
	if !same(got, want) {
		t.Errorf("%s: %s: %v (%x), not %v (%x)", promise, what, got, math.Float64bits(got), want, math.Float64bits(want))
	}
}

// TestOrder (P10.1): each pair of numbers of all sizes, by their places.
func TestOrder(t *testing.T) {
	l := append(rising(), math.NaN())
	for i, a := range l {
		for k, b := range l {
			want := 0
			if i < k {
				want = -1
			} else if i > k {
				want = 1
			}
			if got := meter.Order(a, b); got != want {
				t.Errorf("P10.1: Order(%v, %v): %d, not %d", a, b, got, want)
			}
		}
	}
}

// TestOrderNaN (P10.1): all NaNs are alike, and behind all numbers.
func TestOrderNaN(t *testing.T) {
	for _, a := range nans() {
		for _, b := range nans() {
			if got := meter.Order(a, b); got != 0 {
				t.Errorf("P10.1: Order(%x, %x): %d", math.Float64bits(a), math.Float64bits(b), got)
			}
		}
		for _, x := range rising() {
			if meter.Order(a, x) != 1 || meter.Order(x, a) != -1 {
				t.Errorf("P10.1: %x and %v", math.Float64bits(a), x)
			}
		}
	}
}

// TestOrderZeros (P10.1): the chapter's example, and its other ways round.
func TestOrderZeros(t *testing.T) {
	if meter.Order(minus(), 0) != -1 || meter.Order(0, minus()) != 1 || meter.Order(0, 0) != 0 || meter.Order(minus(), minus()) != 0 {
		t.Error("P10.1: noughts")
	}
}

// TestBits (P10.1): all numbers' bits as they are, one for all NaNs.
func TestBits(t *testing.T) {
	for _, x := range rising() {
		if got := meter.Bits(x); got != math.Float64bits(x) {
			t.Errorf("P10.1: Bits(%v): %x", x, got)
		}
	}
	for _, x := range nans() {
		if got := meter.Bits(x); got != none {
			t.Errorf("P10.1: Bits of the NaN %x: %x", math.Float64bits(x), got)
		}
	}
	rows := []struct {
		x    float64
		want uint64
	}{{0, 0}, {minus(), 1 << 63}, {1, 0x3ff0000000000000}, {-2, 0xc000000000000000}, {inf(), 0x7ff0000000000000}, {-inf(), 0xfff0000000000000}, {math.SmallestNonzeroFloat64, 1}, {math.MaxFloat64, 0x7fefffffffffffff}}
	for _, row := range rows {
		if got := meter.Bits(row.x); got != row.want {
			t.Errorf("P10.1: Bits(%v): %x, not %x", row.x, got, row.want)
		}
	}
}

// TestTotal (P10.4): of any three values Order says one thing: it turns round
// with its arguments, goes on from pair to pair, and 0 is the same bits.
func TestTotal(t *testing.T) {
	r := rand.New(rand.NewSource(10))
	for range 200000 {
		a, b, c := anyFloat(r), anyFloat(r), anyFloat(r)
		if got, want := meter.Order(a, b), wantOrder(a, b); got != want {
			t.Fatalf("P10.1: Order(%v, %v): %d, not %d", a, b, got, want)
		}
		if meter.Order(a, b) != -meter.Order(b, a) || meter.Order(a, a) != 0 {
			t.Fatalf("P10.4: %v and %v", a, b)
		}
		if meter.Order(a, b) <= 0 && meter.Order(b, c) <= 0 && meter.Order(a, c) > 0 {
			t.Fatalf("P10.4: %v, %v, %v", a, b, c)
		}
		if (meter.Order(a, b) == 0) != (meter.Bits(a) == meter.Bits(b)) {
			t.Fatalf("P10.4: alike: %v and %v", a, b)
		}
	}
}

// TestMean (P10.2): none, one, the edges of numbers, the sum's order.
func TestMean(t *testing.T) {
	const tiny, great = math.SmallestNonzeroFloat64, math.MaxFloat64
	rows := []struct {
		l    []float64
		want float64
	}{
		{nil, math.NaN()},
		{[]float64{}, math.NaN()},
		{[]float64{3}, 3},
		{[]float64{1, 2}, 1.5},
		{[]float64{1, 2, 4}, 7.0 / 3},
		{[]float64{-1, -2, -6}, -3},
		{[]float64{0.1, 0.2, 0.3}, 0.20000000000000004},
		{[]float64{0.3, 0.2, 0.1}, 0.19999999999999998},
		{[]float64{0}, 0},
		{[]float64{minus()}, 0},
		{[]float64{minus(), minus()}, 0},
		{[]float64{1, -1}, 0},
		{[]float64{-1, 1}, 0},
		{[]float64{1e16, 1, -1e16}, 0},
		{[]float64{1e16, -1e16, 1}, 1.0 / 3},
		{[]float64{tiny}, tiny},
		{[]float64{tiny, 0}, 0},
		{[]float64{-tiny, 0}, minus()},
		{[]float64{tiny, tiny}, tiny},
		{[]float64{great}, great},
		{[]float64{great, great}, inf()},
		{[]float64{great, -great, great}, great / 3},
		{[]float64{great, great, -great}, inf()},
		{[]float64{-great, -great, great, great}, -inf()},
		{[]float64{inf()}, inf()},
		{[]float64{-inf(), 1, great}, -inf()},
		{[]float64{inf(), inf()}, inf()},
		{[]float64{inf(), -inf()}, math.NaN()},
		{[]float64{-inf(), inf(), 1}, math.NaN()},
		{[]float64{great, great, -inf()}, math.NaN()},
	}
	for _, row := range rows {
		isBits(t, "P10.2", "Mean", meter.Mean(row.l), row.want)
	}
}

// TestMeanNaN (P10.2): a NaN at any place makes the one that is told.
func TestMeanNaN(t *testing.T) {
	for _, x := range nans() {
		for _, l := range [][]float64{{x}, {x, 1}, {1, x}, {1, x, 2}, {x, x}, {inf(), x}, {x, -inf()}, {math.NaN(), x}, {x, math.NaN()}} {
			isBits(t, "P10.2", "Mean with a NaN", meter.Mean(l), math.NaN())
		}
	}
}

// TestMeanRounded (P10.2): against sums and quotients of 53 bits.
func TestMeanRounded(t *testing.T) {
	r := rand.New(rand.NewSource(11))
	for n := range 400 {
		l := make([]float64, n+1)
		sum := near(0)
		for i := range l {
			l[i] = math.Ldexp(r.NormFloat64(), r.Intn(60)-30)
			sum = near0().Add(sum, near(l[i]))
		}
		want, _ := near0().Quo(sum, near(float64(n+1))).Float64()
		isBits(t, "P10.2", "Mean, rounded", meter.Mean(l), want)
	}
}

// TestRank (P10.2): which of ten, of five, of one; q at all its edges.
func TestRank(t *testing.T) {
	ten := []float64{9, 4, 0, 2, 7, 1, 8, 3, 6, 5}
	five := []float64{40, 10, 30, 0, 20}
	below, above := math.Nextafter(1, 0), math.Nextafter(1, 2)
	const tiny = math.SmallestNonzeroFloat64
	rows := []struct {
		l       []float64
		q, want float64
	}{
		{ten, 0, 0}, {ten, minus(), 0}, {ten, -tiny, 0}, {ten, -0.5, 0}, {ten, -1, 0}, {ten, -math.MaxFloat64, 0}, {ten, -inf(), 0},
		{ten, 1, 9}, {ten, above, 9}, {ten, 2, 9}, {ten, 1e300, 9}, {ten, math.MaxFloat64, 9}, {ten, inf(), 9},
		{ten, tiny, 0}, {ten, 0.05, 0}, {ten, math.Nextafter(0.1, 0), 0}, {ten, 0.1, 1}, {ten, 0.15, 1}, {ten, 0.2, 2}, {ten, 0.3, 3},
		{ten, 0.5, 5}, {ten, math.Nextafter(0.5, 0), 4}, {ten, 0.7, 7}, {ten, 0.89, 8}, {ten, 0.9, 9}, {ten, 0.99, 9}, {ten, below, 9},
		{five, 0.2, 10}, {five, 0.39, 10}, {five, 0.4, 20}, {five, 0.5, 20}, {five, 0.6, 30}, {five, 0.8, 40}, {five, below, 40},
		{[]float64{3, 1, 2}, 1.0 / 3, 2}, // the product is rounded to 1, though q is below a third
		{[]float64{7}, 0, 7}, {[]float64{7}, below, 7}, {[]float64{7}, 1, 7}, {[]float64{7}, -1, 7}, {[]float64{7}, math.NaN(), 7},
		{[]float64{2, 1}, 0.5, 2}, {[]float64{2, 1}, math.Nextafter(0.5, 0), 1},
	}
	for _, row := range rows {
		if got := meter.Rank(row.l, row.q); !same(got, row.want) {
			t.Errorf("P10.2: Rank(%v, %v): %v, not %v", row.l, row.q, got, row.want)
		}
	}
	hundred := make([]float64, 100)
	for i := range hundred {
		hundred[i] = float64(99 - i)
	}
	for _, row := range [][2]float64{{0.29, 28}, {0.57, 56}, {0.58, 57}, {0.3, 30}, {0.07, 7}, {0.99, 99}} {
		if got := meter.Rank(hundred, row[0]); got != row[1] {
			t.Errorf("P10.2: Rank of a hundred, %v: %v, not %v", row[0], got, row[1])
		}
	}
}

// TestRankNaN (P10.2): NaNs of l don't count, a q that is one asks for the
// first, and where no number is left the one NaN is told.
func TestRankNaN(t *testing.T) {
	for _, x := range nans() {
		if got := meter.Rank([]float64{3, 1, 2}, x); got != 1 {
			t.Errorf("P10.2: Rank, q a NaN: %v", got)
		}
		l := []float64{x, 3, x, x, 1, 2, x, x}
		for _, row := range [][2]float64{{0, 1}, {0.3, 1}, {0.4, 2}, {0.6, 2}, {0.7, 3}, {1, 3}, {2, 3}} {
			if got := meter.Rank(l, row[0]); got != row[1] {
				t.Errorf("P10.2: Rank(%v, %v): %v, not %v", l, row[0], got, row[1])
			}
		}
		for _, q := range []float64{0, -1, 0.5, 1, 2, inf(), -inf(), x} {
			for _, l := range [][]float64{nil, {}, {x}, {x, x}, {x, math.NaN(), -x}} {
				isBits(t, "P10.2", "Rank of no number", meter.Rank(l, q), math.NaN())
			}
		}
	}
}

// TestRankOrder (P10.2): noughts and what is not finite stand by Order.
func TestRankOrder(t *testing.T) {
	l := []float64{0, inf(), minus(), -inf(), math.NaN(), 0, minus(), math.NaN()}
	want := []float64{-inf(), minus(), minus(), 0, 0, inf()}
	for i, x := range want {
		isBits(t, "P10.2", "Rank, in Order", meter.Rank(l, (float64(i)+0.5)/6), x)
	}
}

// wantRank: by keys, and by a product of 53 bits.
func wantRank(l []float64, q float64) float64 {
	var numbers []float64
	for _, x := range l {
		if x == x {
			numbers = append(numbers, x)
		}
	}
	if len(numbers) == 0 {
		return math.Float64frombits(none)
	}
	slices.SortFunc(numbers, wantOrder)
	last := len(numbers) - 1
	switch {
	case q != q || q < 0:
		return numbers[0]
	case q >= 1:
		return numbers[last]
	}
	number, _ := near0().Mul(near(q), near(float64(len(numbers)))).Int64()
	return numbers[min(int(number), last)]
}

// TestRankAny (P10.2): lists of all values, whichever way they lie.
func TestRankAny(t *testing.T) {
	r := rand.New(rand.NewSource(12))
	for i := range 4000 {
		l := anyFloats(r, r.Intn(40))
		q := r.Float64()
		switch i % 4 {
		case 0:
			q = anyFloat(r)
		case 1:
			q = float64(r.Intn(41)) / float64(1+r.Intn(40))
		}
		want := wantRank(l, q)
		isBits(t, "P10.2", "Rank of any list", meter.Rank(l, q), want)
		slices.Reverse(l)
		isBits(t, "P10.2", "Rank of the list turned round", meter.Rank(l, q), want)
	}
	long := anyFloats(r, 100000)
	for _, q := range []float64{0, 0.001, 0.25, 1.0 / 3, 0.999, math.Nextafter(1, 0), 1} {
		isBits(t, "P10.2", "Rank of a long list", meter.Rank(long, q), wantRank(long, q))
	}
}

func isLoad(t *testing.T, m *meter.Load, what string, value float64, count int) {
	t.Helper()
	isBits(t, "P10.3", what, m.Value(), value)
	if m.Count() != count {
		t.Errorf("P10.3: %s: count %d, not %d", what, m.Count(), count)
	}
}

// TestLoadEmpty (P10.3): nothing, or NaNs alone, whatever part is.
func TestLoadEmpty(t *testing.T) {
	for _, part := range append(rising(), nans()...) {
		m := meter.New(part)
		isLoad(t, m, "of nothing", math.NaN(), 0)
		for _, x := range nans() {
			m.Add(x)
			isLoad(t, m, "of NaNs", math.NaN(), 0)
		}
		m.Add(-5)
		isLoad(t, m, "the first", -5, 1)
	}
}

// TestLoadFirst (P10.3): the first one is the value, bit by bit.
func TestLoadFirst(t *testing.T) {
	for _, part := range []float64{0.125, 0.3, 1, 0} {
		for _, x := range rising() {
			m := meter.New(part)
			m.Add(x)
			isLoad(t, m, "the first", x, 1)
		}
	}
}

// TestLoadPart (P10.3): parts at their edges; what may not be counts as 1.
func TestLoadPart(t *testing.T) {
	below, above := math.Nextafter(1, 0), math.Nextafter(1, 2)
	const tiny = math.SmallestNonzeroFloat64
	ones := append(nans(), 0, minus(), -tiny, -0.5, -1, -inf(), above, 1.5, 2, math.MaxFloat64, inf(), 1)
	for _, part := range ones {
		m := meter.New(part)
		for i, x := range []float64{4, 8, -3, 1e10, 0.5} {
			m.Add(x)
			isLoad(t, m, "part 1", x, i+1)
		}
	}
	rows := []struct{ part, first, second, want float64 }{
		{0.5, 4, 8, 6}, {0.5, 8, 4, 6}, {0.125, 0, 8, 1}, {0.25, -4, 4, -2}, {0.75, 4, 4, 4},
		{below, 0, 1, below}, {tiny, 1, 2, 1}, {tiny, 0, 1, tiny}, {tiny, 0, 0.5, 0}, {below, 4, 8, 8 - 0x1p-51},
	}
	for _, row := range rows {
		m := meter.New(row.part)
		m.Add(row.first)
		m.Add(row.second)
		isLoad(t, m, "two", row.want, 2)
	}
}

// TestLoadEdges (P10.3): what isn't finite, on the way or come to, and -0.
func TestLoadEdges(t *testing.T) {
	const great = math.MaxFloat64
	rows := []struct {
		part float64
		l    []float64
		want float64
	}{
		{0.5, []float64{inf(), 3}, 3},
		{0.5, []float64{-inf(), 3, 5}, 4},
		{0.5, []float64{3, inf()}, inf()},
		{0.5, []float64{3, -inf()}, -inf()},
		{0.5, []float64{3, inf(), 5}, 5},
		{0.5, []float64{3, inf(), 5, 7}, 6},
		{0.5, []float64{inf(), inf()}, inf()},
		{0.5, []float64{inf(), -inf()}, -inf()},
		{0.5, []float64{inf(), minus()}, minus()},
		{1, []float64{-inf(), inf(), 2}, 2},
		{0.5, []float64{-great, great}, great},
		{0.125, []float64{great, -great}, -great},
		{0.125, []float64{great, -great, 0}, -great * 0.875},
		{1, []float64{great, -great}, -great},
		{0.5, []float64{0, great}, great / 2},
		{0.5, []float64{great, great}, great},
		{1, []float64{-1, great}, great},
		{0.5, []float64{minus()}, minus()},
		{0.5, []float64{minus(), minus()}, 0},
		{0.5, []float64{minus(), 0}, 0},
		{1, []float64{1, minus()}, 0},
		{1, []float64{1e-20, 1e20}, 1e20},
		{1, []float64{1e20, 1e-20}, 0},
	}
	for _, row := range rows {
		m := meter.New(row.part)
		for i, x := range row.l {
			if m.Count() != i {
				t.Errorf("P10.3: %v: count %d, not %d", row.l, m.Count(), i)
			}
			m.Add(x)
		}
		isLoad(t, m, "edges", row.want, len(row.l))
	}
}

// TestLoadNaN (P10.3): NaNs between numbers neither move nor count.
func TestLoadNaN(t *testing.T) {
	m := meter.New(0.25)
	rows := [][2]float64{{4, 4}, {8, 5}, {0, 3.75}, {inf(), inf()}, {2, 2}}
	for i, row := range rows {
		m.Add(row[0])
		for _, x := range nans() {
			m.Add(x)
			isLoad(t, m, "a NaN", row[1], i+1)
		}
	}
}

// TestLoadRounded (P10.3): the difference, the product and the sum are each
// rounded; many of the values are others if product and sum are rounded as one.
func TestLoadRounded(t *testing.T) {
	r := rand.New(rand.NewSource(13))
	fused := 0
	for _, part := range []float64{0.1, 1.0 / 3, 0.7, 0.125, math.Nextafter(1, 0)} {
		m := meter.New(part)
		want := near(0)
		for i := range 1000 {
			x := math.Ldexp(r.NormFloat64(), r.Intn(20)-10)
			if i == 0 {
				want = near(x)
			} else {
				way := near0().Sub(near(x), want)
				old, _ := want.Float64()
				want = near0().Add(want, near0().Mul(near(part), way))
				next, _ := want.Float64()
				if math.FMA(part, x-old, old) != next {
					fused++
				}
			}
			m.Add(x)
			value, _ := want.Float64()
			isLoad(t, m, "rounded", value, i+1)
		}
	}
	if fused < 100 {
		t.Errorf("only %d values would tell", fused)
	}
}

// TestLoadBetween (P10.4): a value stays between the least and the greatest
// that were added, but for rounding.
func TestLoadBetween(t *testing.T) {
	r := rand.New(rand.NewSource(14))
	for range 2000 {
		m := meter.New(r.Float64() * 1.2)
		size := r.Intn(2100) - 1050
		least, greatest := inf(), -inf()
		for range 30 {
			x := math.Ldexp(r.Float64()*2-1, size)
			if math.IsInf(x, 0) {
				continue
			}
			least, greatest = min(least, x), max(greatest, x)
			m.Add(x)
			room := max(math.Abs(least), math.Abs(greatest)) * 0x1p-48
			if v := m.Value(); !(v >= least-room && v <= greatest+room) {
				t.Fatalf("P10.4: %v isn't from %v to %v", v, least, greatest)
			}
		}
	}
}

// TestLoadsApart (P10.3): each load keeps its own, and asking changes nothing.
func TestLoadsApart(t *testing.T) {
	a, b := meter.New(0.5), meter.New(0.25)
	a.Add(4)
	isLoad(t, b, "the other", math.NaN(), 0)
	b.Add(8)
	b.Add(0)
	for range 3 {
		isLoad(t, a, "a", 4, 1)
		isLoad(t, b, "b", 6, 2)
	}
	a.Add(0)
	isLoad(t, a, "a", 2, 2)
	isLoad(t, b, "b", 6, 2)
	many := meter.New(1)
	for i := range 70000 {
		many.Add(float64(i))
	}
	isLoad(t, many, "many", 69999, 70000)
}

// TestLeavesLists (P10.2): l and the room behind it stay as they were, and
// that room doesn't count.
func TestLeavesLists(t *testing.T) {
	room := []float64{5, math.NaN(), 1, minus(), 0, inf(), -2, 77, math.NaN(), -77}
	for n := range len(room) + 1 {
		l := slices.Clone(room)
		short := slices.Clone(room[:n:n])
		isBits(t, "P10.2", "Mean, room behind", meter.Mean(l[:n]), meter.Mean(short))
		for _, q := range []float64{-1, 0, 0.4, 1, math.NaN()} {
			isBits(t, "P10.2", "Rank, room behind", meter.Rank(l[:n], q), wantRank(short, q))
		}
		if !sameList(l, room) || !sameList(short, room[:n]) {
			t.Fatal("P10.2: what was handed in changed")
		}
	}
}
