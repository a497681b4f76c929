package rtype_test

import (
	"bytes"
	"math/bits"
	"slices"
	"strings"
	"testing"

	"signet/api"
	"signet/rtype"
)

// row: numbers that follow from a seed.
type row struct{ n uint64 }

func (r *row) next(n int) int {
	r.n = r.n*6364136223846793005 + 1442695040888963407
	return int(r.n >> 33 % uint64(n))
}

// types: a list in which near, far and like types are common.
func (r *row) types() []uint16 {
	l := make([]uint16, r.next(20))
	for i := range l {
		l[i] = uint16(r.next(1 << (1 + r.next(16))))
		switch r.next(4) {
		case 0:
			l[i] = l[r.next(i+1)]
		case 1:
			l[i] ^= 0xff00
		}
	}
	return l
}

// clean: l's types, rising, each once: found by asking for each.
func clean(l []uint16) []uint16 {
	var seen [1 << 16]bool
	for _, t := range l {
		seen[t] = true
	}
	var out []uint16
	for t, there := range seen {
		if there {
			out = append(out, uint16(t))
		}
	}
	return out
}

// bitmap: the bitmap in the chapter's words: all windows with all bytes, then
// what they need.
func bitmap(l []uint16) []byte {
	var windows [256][32]byte
	var there [256]bool
	for _, t := range l {
		there[t>>8] = true
		windows[t>>8][t&0xff>>3] |= bits.Reverse8(1 << (t & 7))
	}
	var out []byte
	for number, window := range windows {
		if there[number] {
			kept := bytes.TrimRight(window[:], "\x00")
			out = append(append(out, byte(number), byte(len(kept))), kept...)
		}
	}
	return out
}

// loose: what b says as a bitmap to one who asks for nothing.
func loose(b []byte) []uint16 {
	var out []uint16
	for len(b) >= 2 {
		window, size := uint16(b[0]), min(int(b[1]), len(b)-2)
		for i := range min(size, 32) {
			for k := range 8 {
				if b[2+i]>>(7-k)&1 == 1 {
					out = append(out, window<<8|uint16(8*i+k))
				}
			}
		}
		b = b[2+size:]
	}
	return out
}

// zeros: a text of n noughts.
func zeros(n int) string { return strings.Repeat("\x00", n) }

// opened: b must be the bitmap of want.
func opened(t *testing.T, b []byte, want []uint16) {
	t.Helper()
	if got, e := rtype.Open(b); e != api.OK || !slices.Equal(got, want) {
		t.Errorf("P4.2: Open(%x): %v, %v, not %v", b, got, e, want)
	}
}

// notOpened: b must be ErrBitmap, with no types beside it.
func notOpened(t *testing.T, b []byte) {
	t.Helper()
	if got, e := rtype.Open(b); e != api.ErrBitmap || len(got) != 0 {
		t.Errorf("P4.2: Open(%x): %v, %v", b, got, e)
	}
}

// judgedBytes: b must be opened, if it is the bitmap of what it says, and
// else refused.
func judgedBytes(t *testing.T, b []byte) {
	t.Helper()
	types := loose(b)
	if bytes.Equal(bitmap(types), b) {
		opened(t, b, clean(types))
	} else {
		notOpened(t, b)
	}
}

// both: l must have the bitmap b, and that must open to l cleaned.
func both(t *testing.T, l []uint16, b []byte) {
	t.Helper()
	if got := rtype.Bitmap(l); !bytes.Equal(got, b) {
		t.Errorf("P4.2: Bitmap(%v): %x, not %x", l, got, b)
	}
	opened(t, b, clean(l))
}

// TestExamples (P4.2): the chapter's example, and the one of RFC 4034, 4.3.
func TestExamples(t *testing.T) {
	both(t, []uint16{1, 15, 46, 47}, []byte{0x00, 0x06, 0x40, 0x01, 0x00, 0x00, 0x00, 0x03})
	far := "\x00\x06\x40\x01\x00\x00\x00\x03\x04\x1b" + zeros(26) + "\x20"
	both(t, []uint16{1, 15, 46, 47, 1234}, []byte(far))
}

// TestBitmaps (P4.2): the first and last types of windows, one and several of
// them, types out of order and twice.
func TestBitmaps(t *testing.T) {
	rows := []struct {
		l []uint16
		b string
	}{
		{nil, ""},
		{[]uint16{}, ""},
		{[]uint16{0}, "\x00\x01\x80"},
		{[]uint16{1}, "\x00\x01\x40"},
		{[]uint16{7}, "\x00\x01\x01"},
		{[]uint16{8}, "\x00\x02\x00\x80"},
		{[]uint16{15}, "\x00\x02\x00\x01"},
		{[]uint16{0, 7}, "\x00\x01\x81"},
		{[]uint16{7, 8}, "\x00\x02\x01\x80"},
		{[]uint16{0, 1, 2, 3, 4, 5, 6, 7}, "\x00\x01\xff"},
		{[]uint16{247}, "\x00\x1f" + zeros(30) + "\x01"},
		{[]uint16{248}, "\x00\x20" + zeros(31) + "\x80"},
		{[]uint16{255}, "\x00\x20" + zeros(31) + "\x01"},
		{[]uint16{0, 255}, "\x00\x20\x80" + zeros(30) + "\x01"},
		{[]uint16{256}, "\x01\x01\x80"},
		{[]uint16{511}, "\x01\x20" + zeros(31) + "\x01"},
		{[]uint16{255, 256}, "\x00\x20" + zeros(31) + "\x01\x01\x01\x80"},
		{[]uint16{0, 256}, "\x00\x01\x80\x01\x01\x80"},
		{[]uint16{0x7fff}, "\x7f\x20" + zeros(31) + "\x01"},
		{[]uint16{0x8000}, "\x80\x01\x80"},
		{[]uint16{0xfe07}, "\xfe\x01\x01"},
		{[]uint16{0xff00}, "\xff\x01\x80"},
		{[]uint16{0xffff}, "\xff\x20" + zeros(31) + "\x01"},
		{[]uint16{0, 0xffff}, "\x00\x01\x80\xff\x20" + zeros(31) + "\x01"},
		{[]uint16{0xff00, 0x8001, 0x0102, 3}, "\x00\x01\x10\x01\x01\x20\x80\x01\x40\xff\x01\x80"},
		{[]uint16{47, 1, 15, 46, 1, 47, 47}, "\x00\x06\x40\x01\x00\x00\x00\x03"},
		{[]uint16{256, 0, 256, 0}, "\x00\x01\x80\x01\x01\x80"},
		{[]uint16{5, 5, 5}, "\x00\x01\x04"},
	}
	for _, r := range rows {
		both(t, r.l, []byte(r.b))
	}
}

// TestClean (P4.2): types rising, each once.
func TestClean(t *testing.T) {
	rows := []struct{ l, want []uint16 }{
		{nil, nil},
		{[]uint16{}, nil},
		{[]uint16{0}, []uint16{0}},
		{[]uint16{0, 0}, []uint16{0}},
		{[]uint16{65535, 65535, 0}, []uint16{0, 65535}},
		{[]uint16{2, 1}, []uint16{1, 2}},
		{[]uint16{1, 2, 1}, []uint16{1, 2}},
		{[]uint16{3, 2, 1, 2, 3}, []uint16{1, 2, 3}},
		{[]uint16{256, 1, 0x8000, 0x7fff, 255}, []uint16{1, 255, 256, 0x7fff, 0x8000}},
	}
	for _, r := range rows {
		if got := rtype.Clean(r.l); !slices.Equal(got, r.want) {
			t.Errorf("P4.2: Clean(%v): %v", r.l, got)
		}
	}
}

// TestAlone (P4.2, P4.3): each type alone.
func TestAlone(t *testing.T) {
	for i := range 1 << 16 {
		l := []uint16{uint16(i)}
		want := []byte{byte(i >> 8), byte(i&0xff/8 + 1)}
		want = append(want, make([]byte, i&0xff/8)...)
		want = append(want, 0x80>>(i%8))
		if got := rtype.Bitmap(l); !bytes.Equal(got, want) {
			t.Fatalf("P4.2: Bitmap(%d): %x", i, got)
		}
		if got, e := rtype.Open(want); e != api.OK || !slices.Equal(got, l) {
			t.Fatalf("P4.2: Open(%x): %v, %v", want, got, e)
		}
		if got := rtype.Clean(l); !slices.Equal(got, l) {
			t.Fatalf("P4.2: Clean(%d): %v", i, got)
		}
	}
}

// TestAll (P4.2): all types at once, rising, falling, each of them thrice.
func TestAll(t *testing.T) {
	var all []uint16
	var want []byte
	for i := range 256 {
		want = append(append(want, byte(i), 32), bytes.Repeat([]byte{0xff}, 32)...)
		for k := range 256 {
			all = append(all, uint16(i<<8|k))
		}
	}
	falling := slices.Clone(all)
	slices.Reverse(falling)
	for _, l := range [][]uint16{all, falling, slices.Concat(falling, all, falling)} {
		if got := rtype.Clean(l); !slices.Equal(got, all) {
			t.Errorf("P4.2: Clean of %d: %d", len(l), len(got))
		}
		if got := rtype.Bitmap(l); !bytes.Equal(got, want) {
			t.Errorf("P4.2: Bitmap of %d: %d bytes", len(l), len(got))
		}
	}
	opened(t, want, all)
	notOpened(t, append(want, 0))
	notOpened(t, append(want, want...))
}

// TestMany (P4.2): the same few types very often.
func TestMany(t *testing.T) {
	l := slices.Repeat([]uint16{47, 0xffff, 1, 15, 46, 1}, 1<<18)
	want := []uint16{1, 15, 46, 47, 0xffff}
	if got := rtype.Clean(l); !slices.Equal(got, want) {
		t.Errorf("P4.2: Clean: %v", got)
	}
	if got := rtype.Bitmap(l); !bytes.Equal(got, bitmap(want)) {
		t.Errorf("P4.2: Bitmap: %x", got)
	}
}

// TestLists (P4.2, P4.3): lists of all sorts.
func TestLists(t *testing.T) {
	r := &row{41}
	for range 3000 {
		l := r.types()
		if got := rtype.Clean(l); !slices.Equal(got, clean(l)) {
			t.Fatalf("P4.2: Clean(%v): %v", l, got)
		}
		both(t, l, bitmap(l))
	}
}

// TestNoBitmap (P4.2): bytes that are no bitmap.
func TestNoBitmap(t *testing.T) {
	ones := bytes.Repeat([]byte{1}, 300)
	rows := [][]byte{
		{0}, {1}, {255},
		{0, 0}, {0, 1}, {0, 32}, {0, 33}, {255, 255},
		{0, 0, 0}, {0, 0, 1}, {0, 1, 0}, {5, 1, 0}, {255, 1, 0},
		{0, 2, 1}, {0, 2, 1, 0}, {0, 2, 0, 0}, {0, 3, 1, 1, 0},
		{0, 1, 1, 0}, {0, 1, 1, 1}, {0, 1, 1, 9}, {0, 1, 1, 255},
		{0, 1, 1, 1, 0}, {0, 1, 1, 1, 1}, {0, 1, 1, 1, 1, 0},
		{0, 1, 1, 0, 1, 1}, {0, 1, 1, 0, 1, 2}, {1, 1, 1, 0, 1, 1}, {255, 1, 1, 0, 1, 1}, {255, 1, 1, 255, 1, 1}, {128, 1, 1, 127, 1, 1},
		{0, 1, 1, 2, 1, 1, 1, 1, 1}, {0, 1, 1, 2, 1, 1, 2, 1, 1}, {0, 1, 1, 2, 1, 1, 0, 1, 1},
		{0, 0, 1, 1, 1}, {0, 1, 1, 1, 0, 2, 1, 1},
		append([]byte{0, 0}, ones...),
		append([]byte{0, 33}, ones[:33]...), append([]byte{0, 33}, ones...),
		append([]byte{0, 64}, ones[:64]...), append([]byte{0, 128}, ones[:128]...),
		append([]byte{0, 255}, ones[:255]...), append([]byte{255, 33}, ones[:33]...),
		append([]byte{0, 32}, ones[:31]...), append([]byte{0, 32}, ones[:33]...),
	}
	for _, b := range rows {
		if bytes.Equal(bitmap(loose(b)), b) {
			t.Fatalf("the test's row %x is a bitmap", b)
		}
		notOpened(t, b)
	}
}

// TestWindowLengths (P4.2): each length a window may tell, with each number
// of bytes behind it, the last of them nought or not.
func TestWindowLengths(t *testing.T) {
	for _, window := range []byte{0, 1, 255} {
		for length := range 256 {
			for _, size := range []int{0, 1, 30, 31, 32, 33, 34, length - 1, length, length + 1} {
				if size < 0 {
					continue
				}
				for _, last := range []byte{0, 1, 0x80} {
					// As a length the fill is too great: bytes behind are no window.
					b := append([]byte{window, byte(length)}, bytes.Repeat([]byte{0x51}, size)...)
					if size > 0 {
						b[len(b)-1] = last
					}
					if length >= 1 && length <= 32 && size == length && last != 0 {
						opened(t, b, loose(b))
					} else {
						notOpened(t, b)
					}
				}
			}
		}
	}
}

// TestTwoWindows (P4.2): each two windows: right only if their numbers rise.
func TestTwoWindows(t *testing.T) {
	for first := range 256 {
		for second := range 256 {
			b := []byte{byte(first), 1, 0x80, byte(second), 2, 0, 1}
			if first < second {
				opened(t, b, []uint16{uint16(first << 8), uint16(second<<8 | 15)})
			} else {
				notOpened(t, b)
			}
		}
	}
}

// TestNoughts (P4.2): a byte that is nought is right within a window, and
// wrong at its end, of each length and in a later window too.
func TestNoughts(t *testing.T) {
	for size := 1; size <= 32; size++ {
		for at := range size {
			b := append([]byte{3, byte(size)}, bytes.Repeat([]byte{0x42}, size)...)
			b[2+at] = 0
			judgedBytes(t, b)
			judgedBytes(t, append([]byte{2, 1, 1}, b...))
			judgedBytes(t, append(b, 4, 1, 1))
			if _, e := rtype.Open(b); (e == api.OK) != (at < size-1) {
				t.Errorf("P4.2: %d bytes, nought at %d: %v", size, at, e)
			}
		}
		notOpened(t, append([]byte{0, byte(size)}, make([]byte, size)...))
	}
}

// TestCutAndMore (P4.2): right bitmaps that end ahead, or have bytes behind:
// right only where a window ends.
func TestCutAndMore(t *testing.T) {
	r := &row{42}
	for range 60 {
		b := bitmap(r.types())
		for size := range len(b) {
			judgedBytes(t, b[:size])
		}
		for range 4 {
			judgedBytes(t, append(slices.Clone(b), byte(r.next(256))))
		}
		judgedBytes(t, append(slices.Clone(b), b...))
		judgedBytes(t, append(slices.Clone(b), bitmap(r.types())...))
	}
}

// TestChangedBytes (P4.2): right bitmaps with one byte changed.
func TestChangedBytes(t *testing.T) {
	r := &row{43}
	for range 60 {
		b := bitmap(r.types())
		for at := range b {
			changed := slices.Clone(b)
			changed[at] = byte(r.next(256))
			judgedBytes(t, changed)
			changed[at] = 0
			judgedBytes(t, changed)
			changed[at] = b[at] + 1
			judgedBytes(t, changed)
		}
	}
}

// TestOneForm (P4.3): of all short rows of telling bytes, no two open to the
// same types, and each that opens is the bitmap of what it opens to.
func TestOneForm(t *testing.T) {
	telling := []byte{0, 1, 2, 32, 33, 0x80, 255}
	found := map[string]bool{}
	rows := [][]byte{nil}
	for range 6 {
		for _, b := range rows {
			types, e := rtype.Open(b)
			if e != api.OK {
				notOpened(t, b)
				continue
			}
			var key strings.Builder
			for _, x := range types {
				key.WriteByte(byte(x >> 8))
				key.WriteByte(byte(x))
			}
			if found[key.String()] {
				t.Errorf("P4.3: %x: a second bitmap of %v", b, types)
			}
			found[key.String()] = true
			if got := rtype.Bitmap(types); !bytes.Equal(got, b) {
				t.Errorf("P4.3: %x opens to %v, whose bitmap is %x", b, types, got)
			}
		}
		var longer [][]byte
		for _, b := range rows {
			for _, c := range telling {
				longer = append(longer, append(slices.Clone(b), c))
			}
		}
		rows = longer
	}
	if len(found) < 30 {
		t.Errorf("the test's rows open to %d lists alone", len(found))
	}
}

// TestUnlikeLists (P4.3): all lists out of some types: no two have one bitmap,
// and each comes back.
func TestUnlikeLists(t *testing.T) {
	some := []uint16{0, 1, 7, 8, 46, 255, 256, 263, 511, 0x7fff, 0xff00, 0xffff}
	found := map[string]int{}
	for choice := range 1 << len(some) {
		var l []uint16
		for i, x := range some {
			if choice>>i&1 == 1 {
				l = append(l, x)
			}
		}
		b := rtype.Bitmap(l)
		if before, ok := found[string(b)]; ok {
			t.Fatalf("P4.3: choices %d and %d have one bitmap", before, choice)
		}
		found[string(b)] = choice
		if got, e := rtype.Open(b); e != api.OK || !slices.Equal(got, l) {
			t.Fatalf("P4.3: %v comes back as %v, %v", l, got, e)
		}
	}
}

// TestNothing (P4.2): nil and empty are the same, and no bytes are a bitmap, of no types.
func TestNothing(t *testing.T) {
	for _, l := range [][]uint16{nil, {}, make([]uint16, 5)[:0]} {
		if got := rtype.Clean(l); len(got) != 0 {
			t.Errorf("P4.2: Clean of nothing: %v", got)
		}
		if got := rtype.Bitmap(l); len(got) != 0 {
			t.Errorf("P4.2: Bitmap of nothing: %x", got)
		}
	}
	for _, b := range [][]byte{nil, {}, []byte{0, 1, 1}[:0]} {
		opened(t, b, nil)
	}
}

// TestErrNumber (P4.2): the chapter's number of the error.
func TestErrNumber(t *testing.T) {
	if _, e := rtype.Open([]byte{0}); int(e) != 40 {
		t.Errorf("P4.2: %d", int(e))
	}
}

// TestErrorLate (P4.2): a fault behind much that is right leaves no types.
func TestErrorLate(t *testing.T) {
	var right []byte
	for window := range 200 {
		right = append(right, byte(window), 2, 0xff, 0xff)
	}
	if types, e := rtype.Open(right); e != api.OK || len(types) != 200*16 {
		t.Errorf("P4.2: %d, %v", len(types), e)
	}
	for _, tail := range []string{"\x00", "\xff", "\xff\x00", "\xff\x01", "\xff\x01\x00", "\xc7\x01\x01", "\x00\x01\x01", "\xff\x21" + zeros(32) + "\x01"} {
		notOpened(t, append(slices.Clone(right), tail...))
	}
}

// TestLeavesArguments (P4.2): lists, bytes and the room behind them stay as
// they were, and that room doesn't count.
func TestLeavesArguments(t *testing.T) {
	types := []uint16{300, 2, 2, 1, 65535, 0, 300, 7, 9, 8}
	for n := range len(types) + 1 {
		room := slices.Clone(types)
		cleaned, b := rtype.Clean(room[:n]), rtype.Bitmap(room[:n])
		if !slices.Equal(room, types) {
			t.Errorf("P4.2: the list of %d or its room changed: %v", n, room)
		}
		clear(room)
		if !slices.Equal(cleaned, clean(types[:n])) || !bytes.Equal(b, bitmap(types[:n])) {
			t.Errorf("P4.2: the room behind %d counts, or an answer follows its list", n)
		}
	}
	right := bitmap(types)
	for n := range len(right) + 1 {
		room := slices.Clone(right)
		got, e := rtype.Open(room[:n])
		if !bytes.Equal(room, right) {
			t.Errorf("P4.2: %d bytes or their room changed: %x", n, room)
		}
		clear(room)
		if e == api.OK && !slices.Equal(got, clean(loose(right[:n]))) {
			t.Errorf("P4.2: the room behind %d bytes counts, or the types follow them", n)
		}
	}
}

// TestNewMemory (P4.2): each answer is its own, of a list that is clean
// already too.
func TestNewMemory(t *testing.T) {
	l := []uint16{1, 2, 300}
	b := bitmap(l)
	cleaned, made := rtype.Clean(l), rtype.Bitmap(l)
	types, _ := rtype.Open(b)
	clear(cleaned[:cap(cleaned)])
	clear(made[:cap(made)])
	clear(types[:cap(types)])
	if !slices.Equal(l, []uint16{1, 2, 300}) || !bytes.Equal(b, bitmap(l)) {
		t.Error("P4.2: an answer is its argument's memory")
	}
	if !slices.Equal(rtype.Clean(l), l) || !bytes.Equal(rtype.Bitmap(l), b) {
		t.Error("P4.2: two answers share memory")
	}
	opened(t, b, l)
}

// FuzzOpen (P4.2, P4.3): bytes are opened, if they are the bitmap of what
// they say.
func FuzzOpen(f *testing.F) {
	for _, s := range []string{"", "\x00", "\x00\x00", "\x00\x01\x80", "\x00\x02\x01\x00", "\x00\x01\x01\x00\x01\x01", "\x00\x06\x40\x01\x00\x00\x00\x03\x04\x01\x20", "\x00\x21" + zeros(32) + "\x01"} {
		f.Add([]byte(s))
	}
	f.Fuzz(func(t *testing.T, b []byte) { judgedBytes(t, b) })
}
