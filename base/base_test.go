package base_test

import (
	"bytes"
	"encoding/base32"
	"encoding/hex"
	"strings"
	"testing"
	"unicode/utf8"

	"signet/api"
	"signet/base"
)

const (
	hexDigits   = "0123456789abcdef"
	hex32Digits = "0123456789abcdefghijklmnopqrstuv"
)

var plain32 = base32.NewEncoding(hex32Digits).WithPadding(base32.NoPadding)

// form: one of the two kinds of text, and the library's words for it.
type form struct {
	name   string
	digits string
	text   func([]byte) string
	open   func(string) ([]byte, api.Errno)
	want   func([]byte) string
}

func forms() []form {
	return []form{
		{"Hex32", hex32Digits, base.Hex32, base.OpenHex32, plain32.EncodeToString},
		{"Hex", hexDigits, base.Hex, base.OpenHex, hex.EncodeToString},
	}
}

// pattern: n bytes of which neighbours, and bytes five apart, are unlike.
func pattern(n int) []byte {
	b := make([]byte, n)
	for i := range b {
		b[i] = byte(i*151 + i/5*29 + 77)
	}
	return b
}

// refused: s must be ErrBase, with no bytes beside it.
func refused(t *testing.T, f form, s string) {
	t.Helper()
	b, e := f.open(s)
	if e != api.ErrBase || len(b) != 0 {
		t.Errorf("P2.1: Open%s(%q): %x, %v", f.name, s, b, e)
	}
}

// opened: s must stand for want.
func opened(t *testing.T, f form, s string, want []byte) {
	t.Helper()
	b, e := f.open(s)
	if e != api.OK || !bytes.Equal(b, want) {
		t.Errorf("P2.1: Open%s(%q): %x, %v, not %x", f.name, s, b, e, want)
	}
}

// TestKnown (P2.1): the examples of the chapter and of RFC 4648, 10.
func TestKnown(t *testing.T) {
	rows := []struct{ text, hex32, hex string }{
		{"", "", ""},
		{"f", "co", "66"},
		{"fo", "cpng", "666f"},
		{"foo", "cpnmu", "666f6f"},
		{"foob", "cpnmuog", "666f6f62"},
		{"fooba", "cpnmuoj1", "666f6f6261"},
		{"foobar", "cpnmuoj1e8", "666f6f626172"},
	}
	for _, row := range rows {
		b := []byte(row.text)
		if got := base.Hex32(b); got != row.hex32 {
			t.Errorf("P2.1: Hex32(%q): %s", row.text, got)
		}
		if got := base.Hex(b); got != row.hex {
			t.Errorf("P2.1: Hex(%q): %s", row.text, got)
		}
		opened(t, forms()[0], row.hex32, b)
		opened(t, forms()[1], row.hex, b)
	}
}

// TestNothing (P2.1): nil and empty are the same, and the empty text is one.
func TestNothing(t *testing.T) {
	for _, f := range forms() {
		if f.text(nil) != "" || f.text([]byte{}) != "" {
			t.Errorf("P2.1: %s of nothing", f.name)
		}
		opened(t, f, "", nil)
	}
}

// TestLengths (P2.1): every length up to some blocks of five bytes, there and
// back, and long ones.
func TestLengths(t *testing.T) {
	lengths := []int{8191, 8192, 8193, 65535, 65536, 1<<20 + 3}
	for n := range 131 {
		lengths = append(lengths, n)
	}
	for _, f := range forms() {
		for _, n := range lengths {
			for _, b := range [][]byte{pattern(n), make([]byte, n), bytes.Repeat([]byte{0xff}, n)} {
				s := f.text(b)
				if s != f.want(b) {
					t.Fatalf("P2.1: %s of %d bytes", f.name, n)
				}
				if got, e := f.open(s); e != api.OK || !bytes.Equal(got, b) {
					t.Fatalf("P2.1: Open%s of %d bytes: %v", f.name, n, e)
				}
			}
		}
	}
}

// TestEachByte (P2.1): each byte at each place of a block.
func TestEachByte(t *testing.T) {
	for _, f := range forms() {
		for at := range 6 {
			for c := range 256 {
				b := pattern(6)
				b[at] = byte(c)
				s := f.text(b)
				if s != f.want(b) {
					t.Fatalf("P2.1: %s of %x: %s", f.name, b, s)
				}
				opened(t, f, s, b)
			}
		}
	}
}

// TestEachBit (P2.1): each single bit of two blocks and one byte.
func TestEachBit(t *testing.T) {
	for _, f := range forms() {
		for bit := range 11 * 8 {
			b := make([]byte, 11)
			b[bit/8] = 0x80 >> (bit % 8)
			s := f.text(b)
			if s != f.want(b) {
				t.Fatalf("P2.1: %s of %x: %s", f.name, b, s)
			}
			opened(t, f, s, b)
		}
	}
}

// TestNoSuchLength (P2.1): lengths of text that no bytes have, of noughts too.
func TestNoSuchLength(t *testing.T) {
	for _, f := range forms() {
		noughts := map[int][]byte{} // by the length of their text
		for n := range 100 {
			b := make([]byte, n)
			noughts[len(f.want(b))] = b
		}
		for n := range 100 {
			s := strings.Repeat("0", n)
			if b, ok := noughts[n]; ok {
				opened(t, f, s, b)
				continue
			}
			refused(t, f, s)
			refused(t, f, strings.Repeat("1", n))
			refused(t, f, strings.ToUpper(strings.Repeat(f.digits[len(f.digits)-1:], n)))
		}
	}
}

// TestLeftOver (P2.1): at each length of bytes, each digit in the last place:
// right only if the bits that are left over are nought.
func TestLeftOver(t *testing.T) {
	f := forms()[0]
	for n := 1; n <= 15; n++ {
		s := f.text(pattern(n))
		left := len(s)*5 - n*8
		for value, digit := range hex32Digits {
			changed := s[:len(s)-1] + string(digit)
			for _, y := range []string{changed, strings.ToUpper(changed)} {
				if value%(1<<left) != 0 {
					refused(t, f, y)
					continue
				}
				want, err := plain32.DecodeString(changed)
				if err != nil {
					t.Fatal(err)
				}
				opened(t, f, y, want)
			}
		}
	}
}

// TestCapitals (P2.1): capitals open, also mixed with small letters; but the
// texts that are made have small ones alone.
func TestCapitals(t *testing.T) {
	for _, f := range forms() {
		for n := range 41 {
			b := pattern(n)
			s := f.text(b)
			if s != strings.ToLower(s) {
				t.Errorf("P2.1: %s has capitals: %s", f.name, s)
			}
			opened(t, f, strings.ToUpper(s), b)
			half := len(s) / 2
			opened(t, f, s[:half]+strings.ToUpper(s[half:]), b)
			opened(t, f, strings.ToUpper(s[:half])+s[half:], b)
		}
	}
}

// TestEachRune (P2.1): each of the 256 bytes, at each place of a text: a digit
// counts, small or capital, and nothing else does.
func TestEachRune(t *testing.T) {
	for _, f := range forms() {
		whole := f.text(make([]byte, 10))
		for at := range len(whole) {
			for c := range 256 {
				s := whole[:at] + string([]byte{byte(c)}) + whole[at+1:]
				if !strings.Contains(f.digits, strings.ToLower(string(rune(c)))) || c >= utf8.RuneSelf {
					refused(t, f, s)
					continue
				}
				b, e := f.open(s)
				if e != api.OK || f.text(b) != strings.ToLower(s) {
					t.Errorf("P2.1: Open%s(%q): %x, %v", f.name, s, b, e)
				}
			}
		}
	}
}

// TestWideRunes (P2.1): runes of more than one byte, ones that look like
// digits or fold to letters among them; the text's bytes, and its runes, are
// as many as a right text's.
func TestWideRunes(t *testing.T) {
	runes := []rune{0x80, 0xe9, 0x130, 0x131, 0x17f, 0x212a, 0x660, 0x0966, 0xff10, 0xff21, 0xff41, 0xfffd, 0x10000, 0x1d7ce, 0x10ffff}
	for _, low := range "0az" {
		// Runes whose lowest byte, or lowest 16 bits, are a digit's.
		runes = append(runes, low+0x100, low+0x2000, low+0x10000)
	}
	for _, f := range forms() {
		for _, r := range runes {
			for _, zeros := range []int{0, 1, 2, 3, 4, 5, 6, 7, 8, 16} {
				rest := strings.Repeat("0", zeros)
				refused(t, f, string(r)+rest)
				refused(t, f, rest+string(r))
				refused(t, f, rest+string(r)+rest)
			}
		}
	}
}

// TestNoRunes (P2.1): bytes that are no rune.
func TestNoRunes(t *testing.T) {
	rows := []string{"\xff", "\x80", "\xc3", "\xc0\xb0", "\xe0\x80\xb0", "\xed\xa0\x80", "\xf4\x90\x80\x80", "\xc30", "\xff\xff"}
	for _, f := range forms() {
		for _, row := range rows {
			for zeros := range 9 {
				rest := strings.Repeat("0", zeros)
				refused(t, f, row+rest)
				refused(t, f, rest+row)
				refused(t, f, rest+row+rest)
			}
		}
	}
}

// TestNoSuchText (P2.1): padding, spaces, signs, prefixes; digits of the wider
// form in the narrower one.
func TestNoSuchText(t *testing.T) {
	both := []string{"=", "00=", "co======", " 00", "00 ", "0 0", "00\n", "\x0000", "0x00", "-0", "+0", "w0", "0w", "W0", "z0", "0Z", "00000000w0", "@0", "[0", "`0", "{0", "/0", ":0"}
	for _, f := range forms() {
		for _, s := range both {
			refused(t, f, s)
		}
	}
	for _, s := range []string{"g0", "0g", "G0", "0G", "v0", "0V", "cpnmuoj1"} {
		refused(t, forms()[1], s)
	}
}

// TestErrorLate (P2.1): a fault behind much that is right leaves no bytes.
func TestErrorLate(t *testing.T) {
	for _, f := range forms() {
		whole := f.text(pattern(40))
		for _, tail := range []string{"0", "w", "~~", "\xff\xff"} {
			b, e := f.open(whole + tail)
			if e != api.ErrBase || len(b) != 0 {
				t.Errorf("P2.1: Open%s: %x, %v", f.name, b, e)
			}
		}
	}
}

// TestErrNumber (P2.1): the chapter's number of the error.
func TestErrNumber(t *testing.T) {
	if _, e := base.OpenHex("!"); int(e) != 20 {
		t.Errorf("P2.1: %d", int(e))
	}
	if _, e := base.OpenHex32("!"); int(e) != 20 {
		t.Errorf("P2.1: %d", int(e))
	}
}

// TestLeavesArguments (P2.1): the bytes and the room behind them stay as they
// were, that room doesn't count, and the text doesn't follow the bytes.
func TestLeavesArguments(t *testing.T) {
	for _, f := range forms() {
		for n := range 40 {
			room := pattern(n + 20)
			s := f.text(room[:n])
			if s != f.want(pattern(n)) {
				t.Errorf("P2.1: %s: the room behind %d bytes counts", f.name, n)
			}
			if !bytes.Equal(room, pattern(n+20)) {
				t.Errorf("P2.1: %s: %d bytes or their room changed", f.name, n)
			}
			clear(room)
			if s != f.want(pattern(n)) {
				t.Errorf("P2.1: %s: the text follows its bytes", f.name)
			}
		}
	}
}

// TestNewMemory (P2.1): each answer is its own.
func TestNewMemory(t *testing.T) {
	for _, f := range forms() {
		s := f.want(pattern(20))
		first, _ := f.open(s)
		second, _ := f.open(s)
		clear(first[:cap(first)])
		if !bytes.Equal(second, pattern(20)) {
			t.Errorf("P2.1: Open%s: two answers share memory", f.name)
		}
		opened(t, f, s, pattern(20))
	}
}

// TestOrder (P2.2): texts of bytes of one length are in the bytes' order.
func TestOrder(t *testing.T) {
	for _, f := range forms() {
		for n := 1; n <= 11; n++ {
			for _, pair := range pairs(n) {
				want := bytes.Compare(pair[0], pair[1])
				got := strings.Compare(f.text(pair[0]), f.text(pair[1]))
				if got != want {
					t.Fatalf("P2.2: %s: %x, %x: %d, not %d", f.name, pair[0], pair[1], got, want)
				}
			}
		}
	}
}

// pairs: of n bytes each: unlike at one place alone, each way, or alike.
func pairs(n int) [][2][]byte {
	var out [][2][]byte
	for at := range n {
		for low := 0; low < 256; low += 3 {
			for _, step := range []int{0, 1, 2, 16, 128, 255} {
				first, second := pattern(n), pattern(n)
				first[at], second[at] = byte(low), byte(low+step)
				if at+1 < n {
					// What stands behind must not outweigh the unlike place.
					first[at+1], second[at+1] = 0xff, 0
				}
				out = append(out, [2][]byte{first, second})
			}
		}
	}
	return out
}

// TestOrderAllBytes (P2.2): each two texts of one byte.
func TestOrderAllBytes(t *testing.T) {
	for _, f := range forms() {
		for low := range 256 {
			for high := low + 1; high < 256; high++ {
				if f.text([]byte{byte(low)}) >= f.text([]byte{byte(high)}) {
					t.Fatalf("P2.2: %s: %d, %d", f.name, low, high)
				}
			}
		}
	}
}

// TestOrderOfDigests (P2.2): texts as long as a hashed name.
func TestOrderOfDigests(t *testing.T) {
	for _, f := range forms() {
		var before []byte
		for i := range 32 * 8 {
			b := make([]byte, 32)
			b[31-i/8] = 1 << (i % 8)
			if before != nil && f.text(before) >= f.text(b) {
				t.Fatalf("P2.2: %s: %x, %x", f.name, before, b)
			}
			before = b
		}
	}
}

// FuzzOpen (P2.1): what opens is the text of what it opens to, and nothing
// else opens.
func FuzzOpen(f *testing.F) {
	for _, s := range []string{"", "co", "CPNMUOJ1", "0g", "66", "é0", "\xff0"} {
		f.Add(s)
	}
	f.Fuzz(func(t *testing.T, s string) {
		for _, form := range forms() {
			b, e := form.open(s)
			if e == api.OK && form.text(b) != lowerASCII(s) || e != api.OK && (e != api.ErrBase || len(b) != 0) {
				t.Errorf("P2.1: Open%s(%q): %x, %v", form.name, s, b, e)
			}
		}
		if b, err := hex.DecodeString(s); err == nil {
			opened(t, forms()[1], s, b)
		} else {
			refused(t, forms()[1], s)
		}
		if b, err := plain32.DecodeString(lowerASCII(s)); err == nil && plain32.EncodeToString(b) == lowerASCII(s) {
			opened(t, forms()[0], s, b)
		} else {
			refused(t, forms()[0], s)
		}
	})
}

// lowerASCII: s with its capitals of ASCII small, all other bytes as they are.
func lowerASCII(s string) string {
	b := []byte(s)
	for i, c := range b {
		if 'A' <= c && c <= 'Z' {
			b[i] = c + 'a' - 'A'
		}
	}
	return string(b)
}
