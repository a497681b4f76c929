package rdata_test

import (
	"bytes"
	"fmt"
	"slices"
	"strings"
	"testing"

	"signet/api"
	"signet/rdata"
	"signet/rtype"
)

// head: what stands ahead of an RRSIG's signer.
const head = "\x00\x01\xfd\x02\x00\x00\x00\x03\x80\x00\x00\x00\x00\x00\x00\x05\xab\xcd"

// five: five numbers of an SOA.
const five = "\x00\x00\x00\x01\x00\x00\x00\x02\x00\x00\x00\x03\x00\x00\x00\x04\xff\xff\xff\xff"

// samples: right data of each type that has a form, none of which is right
// without its last byte; more: whether one byte more, whatever it is, is
// right too.
func samples() []sample {
	return []sample{
		{1, "\x7f\x00\x00\x01", false},
		{2, "\x00", false},
		{2, "\x01a\x00", false},
		{2, "\x03Www\x07eXample\x00", false},
		{5, "\x00", false},
		{5, "\x01A\x02Bc\x00", false},
		{6, "\x00\x00" + five, false},
		{6, "\x01M\x00\x03bOx\x01M\x00" + five, false},
		{15, "\x00\x0a\x00", false},
		{15, "AB\x02Mx\x00", false},
		{16, "\x00", false},
		{16, "\x03aBc", false},
		{16, "\x00\x01a", false},
		{16, "\x01\x00\x02ab", false},
		{28, "\x20\x01\x0d\xb8AAAA\x00\x00\x00\x00zzzz", false},
		{43, "\x30\x39\xfd\x02\x07", true},
		{46, head + "\x00", true},
		{46, head + "\x01B\x01C\x00", true},
		{48, "\x01\x01\x03\xfd", true},
		{50, "\x01\x00\x00\x05\x00\x01N", false},
		{50, "\x01\x00\x00\x05\x02\xaa\xbb\x03NeX", false},
		{51, "\x01\x00\x00\x05\x00", false},
		{51, "\x01\x00\x00\x05\x02Sa", false},
	}
}

type sample struct {
	kind uint16
	data string
	more bool
}

// taken, refused: b must be right, or not, in the test's own words and in
// those of the model.
func taken(t *testing.T, kind uint16, b []byte) {
	t.Helper()
	if !judged(t, kind, b) {
		t.Errorf("the test's data of type %d aren't right: %.80x", kind, b)
	}
	if e := rdata.Check(kind, b); e != api.OK {
		t.Errorf("P5.1: Check(%d, %.80x) of %d bytes: %v", kind, b, len(b), e)
	}
}

func refused(t *testing.T, kind uint16, b []byte) {
	t.Helper()
	if judged(t, kind, b) {
		t.Errorf("the test's data of type %d are right: %.80x", kind, b)
	}
	if e := rdata.Check(kind, b); e != api.ErrData {
		t.Errorf("P5.1: Check(%d, %.80x) of %d bytes: %v", kind, b, len(b), e)
	}
}

// TestErrNumber (P5.1): the chapter's number of the error, by every call.
func TestErrNumber(t *testing.T) {
	numbers := []api.Errno{rdata.Check(1, nil)}
	_, e := rdata.Canon(1, nil)
	numbers = append(numbers, e)
	_, e = rdata.Target(2, nil)
	numbers = append(numbers, e)
	_, e = rdata.Soa(nil)
	numbers = append(numbers, e)
	_, e = rdata.Sig(nil)
	numbers = append(numbers, e)
	_, e = rdata.Chain(nil)
	numbers = append(numbers, e)
	_, e = rdata.Key(nil)
	numbers = append(numbers, e)
	for i, e := range numbers {
		if int(e) != 50 {
			t.Errorf("P5.1: %d: %d", i, int(e))
		}
	}
}

// TestSamples (P5.1): data that are just right, each beginning of them, and
// a byte more.
func TestSamples(t *testing.T) {
	for _, s := range samples() {
		b := []byte(s.data)
		taken(t, s.kind, b)
		for size := range b {
			// The bytes that lack stand in the room behind: they don't count.
			judged(t, s.kind, b[:size])
			judged(t, s.kind, b[:size:size])
		}
		refused(t, s.kind, b[:len(b)-1])
		for c := range 256 {
			longer := append(slices.Clone(b), byte(c))
			judged(t, s.kind, longer)
			if s.more {
				taken(t, s.kind, longer)
			}
		}
		if s.kind != 16 && !s.more {
			refused(t, s.kind, append(slices.Clone(b), 0))
			refused(t, s.kind, append(slices.Clone(b), 1))
			refused(t, s.kind, join(b, b))
		}
	}
}

// TestNoBytes (P5.1): no bytes are data of other types alone.
func TestNoBytes(t *testing.T) {
	for _, b := range [][]byte{nil, {}, []byte("\x00\x01\x02\x03")[:0]} {
		for _, kind := range knownTypes() {
			refused(t, kind, b)
		}
		for _, kind := range []uint16{0, 3, 4, 41, 47, 255, 65535} {
			taken(t, kind, b)
		}
	}
}

// TestLengths (P5.1): noughts of each length, as data of each type.
func TestLengths(t *testing.T) {
	right := map[uint16]func(int) bool{
		1:  func(size int) bool { return size == 4 },
		2:  func(size int) bool { return size == 1 },
		5:  func(size int) bool { return size == 1 },
		6:  func(size int) bool { return size == 22 },
		15: func(size int) bool { return size == 3 },
		16: func(size int) bool { return size >= 1 },
		28: func(size int) bool { return size == 16 },
		43: func(size int) bool { return size >= 5 },
		46: func(size int) bool { return size >= 19 },
		48: func(size int) bool { return size >= 4 },
		50: func(size int) bool { return false },
		51: func(size int) bool { return size == 5 },
	}
	for size := range 300 {
		b := make([]byte, size)
		for _, kind := range knownTypes() {
			if right[kind](size) {
				taken(t, kind, b)
			} else {
				refused(t, kind, b)
			}
		}
		taken(t, 99, b)
	}
}

// bitmap: one of size bytes (no 1 or 2), of windows that are as long as they
// may be.
func bitmap(size int) []byte {
	var out []byte
	for window := 0; len(out) < size; window++ {
		take := min(size-len(out), 34)
		if left := size - len(out) - take; left == 1 || left == 2 {
			take -= 3
		}
		bits := bytes.Repeat([]byte{0x40}, take-2)
		out = append(append(out, byte(window), byte(take-2)), bits...)
	}
	return out
}

// TestMaxData (P5.1): data of 8191 and 8192 bytes are right where their form
// is, those of 8193 and more are not, of any type.
func TestMaxData(t *testing.T) {
	grown := map[uint16]func(int) []byte{
		16: func(size int) []byte {
			b := make([]byte, size)
			for at := 0; at+256 <= size; at += 256 {
				b[at] = 255
			}
			return b
		},
		43: func(size int) []byte { return bytes.Repeat([]byte("D"), size) },
		46: func(size int) []byte { return append([]byte(head+"\x01S\x00"), make([]byte, size-len(head)-3)...) },
		48: func(size int) []byte { return bytes.Repeat([]byte("K"), size) },
		50: func(size int) []byte { return append([]byte("\x01\x00\x00\x05\x01s\x02ne"), bitmap(size-9)...) },
		99: func(size int) []byte { return bytes.Repeat([]byte("X"), size) },
	}
	for _, other := range []uint16{0, 3, 41, 47, 52, 255, 256, 65535} {
		grown[other] = grown[99]
	}
	for kind, grow := range grown {
		for _, size := range []int{8190, 8191, 8192} {
			taken(t, kind, grow(size))
		}
		for _, size := range []int{8193, 8194, 8600} {
			b := grow(size)
			if _, ok := split(layout(kind), b); !ok {
				t.Errorf("the test's %d bytes of type %d aren't of its form", size, kind)
			}
			refused(t, kind, b)
		}
	}
	for _, size := range []int{8191, 8192, 8193, 65535, 65536, 65540, 1 << 20} {
		for _, kind := range []uint16{1, 2, 5, 6, 15, 28, 51} {
			refused(t, kind, make([]byte, size))
		}
		judged(t, 16, make([]byte, size))
		judged(t, 99, make([]byte, size))
	}
	if api.MaxData != 8192 {
		t.Error("P5.1: MaxData")
	}
}

// withName: data of each type that has a name, with that one in each place
// for one: as many rows as places.
func withName(n []byte) []sample {
	s := string(n)
	return []sample{
		{2, s, false}, {5, s, false}, {15, "\xff\xff" + s, false},
		{6, s + "\x01b\x00" + five, false}, {6, "\x01a\x00" + s + five, false},
		{46, head + s, true}, {46, head + s + "SIG", true},
	}
}

// TestNames (P5.1): names of every length about MaxName, in each place.
func TestNames(t *testing.T) {
	for size := 1; size <= 600; size++ {
		if size == 2 {
			continue
		}
		n := sized(size)
		for _, s := range withName(wire(n)) {
			if size <= 255 {
				taken(t, s.kind, []byte(s.data))
			} else {
				refused(t, s.kind, []byte(s.data))
			}
		}
	}
	many := bytes.Repeat([]byte("\x01a"), 127)
	for _, s := range withName(append(many, 0)) {
		taken(t, s.kind, []byte(s.data))
	}
	for _, s := range withName(append(many, 1, 'a', 0)) {
		refused(t, s.kind, []byte(s.data))
	}
}

// TestWrongNames (P5.1): names that end ahead, and labels' lengths that
// name.Open refuses, in each place.
func TestWrongNames(t *testing.T) {
	for length := range 256 {
		n := append([]byte{byte(length)}, label(length)...)
		n = append(n, 0)
		for _, ahead := range []string{"", "\x01a", "\x3f" + label(63)} {
			for _, s := range withName(append([]byte(ahead), n...)) {
				if 0 < length && length <= 63 {
					taken(t, s.kind, []byte(s.data))
				} else if length > 63 {
					refused(t, s.kind, []byte(s.data))
				} else {
					judged(t, s.kind, []byte(s.data))
				}
			}
		}
	}
	for _, pointer := range []string{"\xc0\x00", "\xc0\x0c", "\x01a\xc0\x00", "\xff\xff", "\x40", "\x41\x00", "\x80\x00"} {
		for _, s := range withName([]byte(pointer)) {
			refused(t, s.kind, []byte(s.data))
			refused(t, s.kind, []byte(s.data+"\x00"))
		}
	}
	for _, cut := range []string{"", "\x01", "\x01a", "\x02a", "\x3f", "\x01a\x02bc", "\x01a\x02b"} {
		for _, s := range []sample{{2, cut, false}, {5, cut, false}, {15, "\x00\x00" + cut, false}, {6, "\x00" + cut, false}, {6, cut, false}, {46, head + cut, false}} {
			refused(t, s.kind, []byte(s.data))
		}
	}
}

// TestBehindNames (P5.1): names go to the data's end.
func TestBehindNames(t *testing.T) {
	for _, n := range []api.Name{nil, {"a"}, {"a", "b"}, sized(255)} {
		for _, tail := range []string{"\x00", "\x01", "a", "\x01a\x00", "\x00\x00"} {
			for _, s := range withName(wire(n)) {
				if s.more {
					taken(t, s.kind, []byte(s.data+tail))
				} else {
					refused(t, s.kind, []byte(s.data+tail))
				}
			}
		}
	}
	for size := range 41 {
		b := append([]byte("\x01a\x00\x01b\x00"), make([]byte, size)...)
		if size == 20 {
			taken(t, 6, b)
		} else {
			refused(t, 6, b)
		}
	}
}

// TestTexts (P5.1): texts of no bytes and of 255, one and several, such that
// run past the end.
func TestTexts(t *testing.T) {
	for size := range 256 {
		text := append([]byte{byte(size)}, bytes.Repeat([]byte("T"), size)...)
		for _, ahead := range []string{"", "\x00", "\x01a", "\x00\x00\x02ab"} {
			b := append([]byte(ahead), text...)
			taken(t, 16, b)
			taken(t, 16, append(b, 0))
			taken(t, 16, join(b, text))
			refused(t, 16, append(b, 1))
			refused(t, 16, append(b, 255))
			if size > 0 {
				refused(t, 16, b[:len(b)-1])
				refused(t, 16, b[:len(ahead)+1])
			}
		}
	}
	for count := 1; count <= 8192; count *= 2 {
		taken(t, 16, make([]byte, count))
	}
}

// counted: a length, whatever it says, and so many bytes.
func counted(length, size int) []byte {
	return append([]byte{byte(length)}, bytes.Repeat([]byte{'C'}, size)...)
}

// TestSalts (P5.1): NSEC3PARAM's salt of each length, a byte short and a
// byte long.
func TestSalts(t *testing.T) {
	for length := range 256 {
		for size := range 258 {
			b := join([]byte("\x01\x00\x00\x05"), counted(length, size))
			if size == length {
				taken(t, 51, b)
			} else {
				refused(t, 51, b)
			}
		}
	}
}

// TestChainLengths (P5.1): NSEC3's salt and next of each length; a next of
// no bytes is none; lengths that run past the end.
func TestChainLengths(t *testing.T) {
	start := []byte("\x01\x00\x00\x05")
	for length := range 256 {
		for _, types := range []string{"", "\x00\x01\x40", "\x00\x01\x40\x01\x01\x01"} {
			salted := join(start, counted(length, length), []byte("\x01N"+types))
			next := join(start, []byte("\x01S"), counted(length, length), []byte(types))
			both := join(start, counted(length, length), counted(length, length), []byte(types))
			taken(t, 50, salted)
			if length > 0 {
				taken(t, 50, next)
				taken(t, 50, both)
			} else {
				refused(t, 50, next)
				refused(t, 50, both)
			}
		}
		for size := range length {
			refused(t, 50, join(start, counted(length, size)))
			refused(t, 50, join(start, []byte("\x00"), counted(length, size)))
			refused(t, 50, join(start, []byte("\x01S"), counted(length, size)))
		}
		refused(t, 50, join(start, counted(length, length)))
	}
}

// TestChainBitmaps (P5.1): NSEC3's bitmap: none, right ones, and such that
// rtype.Open refuses.
func TestChainBitmaps(t *testing.T) {
	start := "\x01\x00\x00\x05\x01S\x01N"
	for _, right := range []string{"", "\x00\x01\x80", "\x00\x06\x40\x01\x00\x00\x00\x03", "\x01\x01\x01", "\xff\x01\x01", "\x00\x01\x40\x04\x01\x20", "\x00\x20" + strings.Repeat("\x00", 31) + "\x01"} {
		taken(t, 50, []byte(start+right))
	}
	for _, wrong := range []string{"\x00", "\xff", "\x00\x00", "\x00\x01", "\x00\x01\x00", "\x00\x02\x40\x00", "\x00\x02\x40", "\x00\x01\x40\x00", "\x00\x01\x40\x40", "\x00\x01\x40\x00\x01\x40", "\x01\x01\x40\x00\x01\x40", "\x00\x21" + strings.Repeat("\x00", 32) + "\x01"} {
		refused(t, 50, []byte(start+wrong))
	}
	for size := 3; size < 1000; size++ {
		taken(t, 50, append([]byte(start), bitmap(size)...))
	}
}

// TestOtherTypes (P5.1, P5.2): of all other types anything, as it stands.
func TestOtherTypes(t *testing.T) {
	some := [][]byte{nil, {0}, {1}, []byte("\x03Www\x07eXample\x00"), []byte("ABC"), []byte("\xc0\x00"), []byte(head + "\x01B\x00")}
	for i := range 1 << 16 {
		kind := uint16(i)
		if slices.Contains(knownTypes(), kind) {
			continue
		}
		for _, b := range some {
			if e := rdata.Check(kind, b); e != api.OK {
				t.Fatalf("P5.1: Check(%d, %q): %v", kind, b, e)
			}
			if got, e := rdata.Canon(kind, b); e != api.OK || !bytes.Equal(got, b) {
				t.Fatalf("P5.2: Canon(%d, %q): %q, %v", kind, b, got, e)
			}
			if got, e := rdata.Target(kind, b); e != api.ErrData || len(got) != 0 {
				t.Fatalf("P5.2: Target(%d, %q): %q, %v", kind, b, got, e)
			}
		}
	}
}

// TestCanon (P5.2): capitals in the names that are told in small letters, and
// in all else, which stands as it is.
func TestCanon(t *testing.T) {
	low := strings.ToLower
	mixed := "\x03AbC\x02zZ\x00"
	heads := strings.Repeat("A", 18)
	rows := []struct {
		kind     uint16
		from, to string
	}{
		{1, "AZaz", "AZaz"},
		{28, "ABCDEFGHIJKLMNOP", "ABCDEFGHIJKLMNOP"},
		{2, mixed, low(mixed)},
		{2, "\x00", "\x00"},
		{5, mixed, low(mixed)},
		{15, "AB" + mixed, "AB" + low(mixed)},
		{6, mixed + "\x01X\x01Y\x00" + "ABCDEFGHIJKLMNOPQRST", low(mixed) + "\x01x\x01y\x00" + "ABCDEFGHIJKLMNOPQRST"},
		{6, "\x00\x01X\x00" + five, "\x00\x01x\x00" + five},
		{6, "\x01X\x00\x00" + five, "\x01x\x00\x00" + five},
		{16, "\x03AbC\x02zZ\x00", "\x03AbC\x02zZ\x00"},
		{43, "AAAA" + mixed, "AAAA" + mixed},
		{46, heads + mixed, heads + low(mixed)},
		{46, heads + mixed + "SIG" + mixed, heads + low(mixed) + "SIG" + mixed},
		{46, heads + "\x00" + mixed, heads + "\x00" + mixed},
		{48, "KEYS" + mixed, "KEYS" + mixed},
		{50, "HFIT\x04SALT\x04NEXT\x41\x01\x41", "HFIT\x04SALT\x04NEXT\x41\x01\x41"},
		{51, "HFIT\x04SALT", "HFIT\x04SALT"},
		{12, mixed, mixed},
		{41, "ABC", "ABC"},
		{255, mixed, mixed},
	}
	for _, r := range rows {
		taken(t, r.kind, []byte(r.from))
		if got, e := rdata.Canon(r.kind, []byte(r.from)); e != api.OK || string(got) != r.to {
			t.Errorf("P5.2: Canon(%d, %q): %q, %v, not %q", r.kind, r.from, got, e, r.to)
		}
		if got, e := rdata.Canon(r.kind, []byte(r.to)); e != api.OK || string(got) != r.to {
			t.Errorf("P5.2: Canon(%d, %q) again: %q, %v", r.kind, r.to, got, e)
		}
	}
}

// TestCanonEachByte (P5.2): each byte at each place of a label: letters of
// ASCII alone are small.
func TestCanonEachByte(t *testing.T) {
	for c := range 256 {
		for at := range 3 {
			l := []byte("BmY")
			l[at] = byte(c)
			for _, s := range withName(wire(api.Name{string(l), "Org", string(l)})) {
				taken(t, s.kind, []byte(s.data))
			}
		}
	}
}

// TestTarget (P5.2): the name as it stands, of three types alone.
func TestTarget(t *testing.T) {
	for _, n := range []api.Name{nil, {"a"}, {"Www", "eXample"}, {"*", "a.b", "\x00\xff"}, sized(255)} {
		b := wire(n)
		for kind, data := range map[uint16][]byte{2: b, 5: b, 15: join([]byte("\x00\x0a"), b), 6: join(b, b, []byte(five)), 46: join([]byte(head), b), 99: b, 12: b, 41: b, 255: b} {
			taken(t, kind, data)
			got, e := rdata.Target(kind, data)
			if kind != 2 && kind != 5 && kind != 15 {
				if e != api.ErrData || len(got) != 0 {
					t.Errorf("P5.2: Target(%d, %.40q): %q, %v", kind, data, got, e)
				}
			} else if e != api.OK || !slices.Equal(got, n) {
				t.Errorf("P5.2: Target(%d, %.40q): %q, %v", kind, data, got, e)
			}
		}
	}
	for i := range 1 << 16 {
		kind := uint16(i)
		got, e := rdata.Target(kind, []byte("\x03abc\x00"))
		if right := kind == 2 || kind == 5; e != errno(right) || (len(got) == 1) != right {
			t.Errorf("P5.2: Target(%d): %q, %v", kind, got, e)
		}
	}
}

// TestWrongTarget (P5.2): no name beside an error.
func TestWrongTarget(t *testing.T) {
	for _, b := range []string{"", "\x01", "\x01a", "\x01a\x00\x00", "\x01a\x01b", "\x00\x00", "\xc0\x00", "\x00\x0a", "\x00", "\x00\x0a\x01a", "\x00\x0a\x01a\x00\x00", "\x00\x0a\x00\x00", string(wire(sized(256))), "\x00\x0a" + string(wire(sized(256)))} {
		for _, kind := range []uint16{2, 5, 15} {
			judged(t, kind, []byte(b))
		}
	}
	for _, b := range []string{"", "\x01a", "\x01a\x00\x00", "\xc0\x00"} {
		for _, kind := range []uint16{2, 5, 15} {
			if got, e := rdata.Target(kind, []byte(b)); e != api.ErrData || len(got) != 0 {
				t.Errorf("P5.2: Target(%d, %q): %q, %v", kind, b, got, e)
			}
		}
	}
}

// TestChanged (P5.1 to P5.4): right data with one byte changed, put in or
// left out.
func TestChanged(t *testing.T) {
	for _, s := range samples() {
		for at := range len(s.data) + 1 {
			for c := range 256 {
				one := string([]byte{byte(c)})
				judged(t, s.kind, []byte(s.data[:at]+one+s.data[at:]))
				if at < len(s.data) {
					judged(t, s.kind, []byte(s.data[:at]+one+s.data[at+1:]))
				}
			}
			if at < len(s.data) {
				judged(t, s.kind, []byte(s.data[:at]+s.data[at+1:]))
			}
		}
	}
}

// TestOtherForms (P5.1): each type's data as each other type's.
func TestOtherForms(t *testing.T) {
	for _, s := range samples() {
		for _, kind := range append(knownTypes(), 0, 41, 47, 255, 256+1, 256+2) {
			judged(t, kind, []byte(s.data))
		}
	}
}

// TestMadeUp (P5.1 to P5.4): bytes of all kinds.
func TestMadeUp(t *testing.T) {
	r := &row{5}
	right := 0
	for range 200000 {
		kinds := knownTypes()
		kind := kinds[r.next(len(kinds))]
		if judged(t, kind, r.bytes(r.next(40))) {
			right++
		}
		if t.Failed() {
			return
		}
	}
	if right < 1000 {
		t.Errorf("of the test's data %d alone are right", right)
	}
}

// calls: all that b of that type is handed to, and what that tells.
func calls(kind uint16, b []byte) []any {
	canon, e1 := rdata.Canon(kind, b)
	target, e2 := rdata.Target(kind, b)
	soa, e3 := rdata.Soa(b)
	sig, e4 := rdata.Sig(b)
	chain, e5 := rdata.Chain(b)
	key, e6 := rdata.Key(b)
	return []any{rdata.Check(kind, b), canon, e1, target, e2, soa, e3, sig, e4, chain, e5, key, e6}
}

// TestLeavesData (P5.1 to P5.3): bytes, and the room behind them, stay as
// they were; no answer follows them, and that room doesn't count.
func TestLeavesData(t *testing.T) {
	for _, s := range samples() {
		whole := s.data + "More\x00\x01"
		for size := range len(whole) + 1 {
			room := []byte(whole)
			got := calls(s.kind, room[:size])
			if string(room) != whole {
				t.Errorf("P5.1: %q of type %d or its room changed: %q", whole[:size], s.kind, room)
			}
			clear(room)
			alone := calls(s.kind, slices.Clip([]byte(whole[:size])))
			if fmt.Sprint(got) != fmt.Sprint(alone) {
				t.Errorf("P5.1: the room behind %q counts, or an answer follows it", whole[:size])
			}
		}
	}
}

// TestNewData (P5.2): Canon's answer is new memory, where nothing changes
// too.
func TestNewData(t *testing.T) {
	for _, s := range append(samples(), sample{99, "abc", true}) {
		b := []byte(s.data)
		first, _ := rdata.Canon(s.kind, b)
		want := slices.Clone(first)
		clear(first[:cap(first)])
		if string(b) != s.data {
			t.Errorf("P5.2: Canon(%d, %q) answers its argument's memory", s.kind, s.data)
		}
		if again, _ := rdata.Canon(s.kind, b); !bytes.Equal(again, want) {
			t.Errorf("P5.2: two answers of Canon(%d, %q) share memory", s.kind, s.data)
		}
	}
	b := []byte("\x00\x0a\x01a\x01b\x00")
	n, _ := rdata.Target(15, b)
	clear(n[:cap(n)])
	if again, _ := rdata.Target(15, b); !slices.Equal(again, api.Name{"a", "b"}) {
		t.Errorf("P5.2: two answers of Target share memory: %q", again)
	}
}

// FuzzData (P5.1 to P5.4): all calls over any bytes.
func FuzzData(f *testing.F) {
	for _, s := range samples() {
		f.Add(s.kind, []byte(s.data))
	}
	f.Add(uint16(50), append([]byte("\x01\x00\x00\x05\x00\x01N"), rtype.Bitmap([]uint16{1, 46, 300})...))
	f.Add(uint16(99), []byte("ABC"))
	f.Fuzz(func(t *testing.T, kind uint16, b []byte) { judged(t, kind, b) })
}
