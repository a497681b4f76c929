package hash_test

import (
	"bytes"
	"crypto/sha256"
	"encoding/binary"
	"encoding/hex"
	"strings"
	"testing"

	"signet/hash"
)

// pattern: n bytes of which neighbours, and bytes a block apart, are unlike.
func pattern(n int) []byte {
	b := make([]byte, n)
	for i := range b {
		b[i] = byte(i*7 + i>>6*13 + 1)
	}
	return b
}

// framed: the text that Short hashes, in the chapter's words.
func framed(tag byte, parts [][]byte) []byte {
	text := []byte{tag}
	for _, part := range parts {
		text = binary.BigEndian.AppendUint32(text, uint32(len(part)))
		text = append(text, part...)
	}
	return text
}

func wantShort(tag byte, parts [][]byte) [8]byte {
	sum := sha256.Sum256(framed(tag, parts))
	return [8]byte(sum[:8])
}

// TestSumKnown (P1.1): the examples of FIPS 180-4's authors and the chapter.
func TestSumKnown(t *testing.T) {
	rows := []struct{ text, sum string }{
		{"", "e3b0c44298fc1c149afbf4c8996fb92427ae41e4649b934ca495991b7852b855"},
		{"abc", "ba7816bf8f01cfea414140de5dae2223b00361a396177a9cb410ff61f20015ad"},
		{"abcdbcdecdefdefgefghfghighijhijkijkljklmklmnlmnomnopnopq", "248d6a61d20638b8e5c026930c3e6039a33ce45964ff2167f6ecedd419db06c1"},
		{"abcdefghbcdefghicdefghijdefghijkefghijklfghijklmghijklmnhijklmnoijklmnopjklmnopqklmnopqrlmnopqrsmnopqrstnopqrstu", "cf5b16a778af8380036ce59e7b0492370b249b11e8f07a51afac45037afee9d1"},
		{strings.Repeat("a", 1000000), "cdc76e5c9914fb9281a1c7e284d73e67f1809a48a497200e046d39ccc7112cd0"},
	}
	for _, row := range rows {
		got := hash.Sum([]byte(row.text))
		if hex.EncodeToString(got[:]) != row.sum {
			t.Errorf("P1.1: %d bytes: %x, not %s", len(row.text), got, row.sum)
		}
	}
}

// TestSumLengths (P1.1): every length about the ends of the first blocks, and
// some at which the count of bits takes another byte.
func TestSumLengths(t *testing.T) {
	lengths := []int{8191, 8192, 8193, 65535, 65536, 1<<21 - 1, 1 << 21}
	for n := range 5*64 + 1 {
		lengths = append(lengths, n)
	}
	for _, n := range lengths {
		b := pattern(n)
		if hash.Sum(b) != sha256.Sum256(b) {
			t.Errorf("P1.1: %d bytes", n)
		}
	}
}

// TestSumLong (P1.1): a text whose count of bits takes more than 32 bits.
func TestSumLong(t *testing.T) {
	b := make([]byte, 1<<29+5)
	copy(b, pattern(200))
	if hash.Sum(b) != sha256.Sum256(b) {
		t.Errorf("P1.1: %d bytes", len(b))
	}
}

// TestSumEveryBit (P1.1): each bit of a text of two blocks counts.
func TestSumEveryBit(t *testing.T) {
	b := pattern(128)
	for i := range len(b) * 8 {
		b[i/8] ^= 1 << (i % 8)
		if hash.Sum(b) != sha256.Sum256(b) {
			t.Fatalf("P1.1: bit %d", i)
		}
		b[i/8] ^= 1 << (i % 8)
	}
}

// TestSumNil (P1.1): nil and empty are the same.
func TestSumNil(t *testing.T) {
	if hash.Sum(nil) != hash.Sum([]byte{}) || hash.Sum(nil) != sha256.Sum256(nil) {
		t.Error("P1.1: nil")
	}
}

// TestSumLeavesArgument (P1.1): the bytes and the room behind them stay as
// they were, and that room doesn't count.
func TestSumLeavesArgument(t *testing.T) {
	for n := range 200 {
		room := pattern(n + 300)
		if hash.Sum(room[:n]) != sha256.Sum256(pattern(n)) {
			t.Errorf("P1.1: the room behind %d bytes counts", n)
		}
		if !bytes.Equal(room, pattern(n+300)) {
			t.Fatalf("P1.1: %d bytes or their room changed", n)
		}
	}
}

// TestShort (P1.1): ordinary parts, none, empty ones, the same one again.
func TestShort(t *testing.T) {
	same := pattern(9)
	lists := [][][]byte{
		nil,
		{},
		{nil},
		{{}},
		{nil, nil},
		{{0}},
		{pattern(8)},
		{pattern(8), pattern(4), {3}, {1}},
		{nil, pattern(5), nil},
		{same, same, same[2:], same[:0]},
		{pattern(512)},
		{pattern(70), pattern(200), pattern(1000)},
	}
	for i, parts := range lists {
		for _, tag := range []byte{0, 1, 2, 127, 128, 255} {
			if got := hash.Short(tag, parts...); got != wantShort(tag, parts) {
				t.Errorf("P1.1: list %d, tag %d: %x", i, tag, got)
			}
		}
	}
}

// TestShortArguments (P1.1): parts that are written one by one.
func TestShortArguments(t *testing.T) {
	if hash.Short(7) != wantShort(7, nil) {
		t.Error("P1.1: no parts")
	}
	if hash.Short(7, []byte("ab"), nil, []byte("c")) != wantShort(7, [][]byte{[]byte("ab"), {}, []byte("c")}) {
		t.Error("P1.1: three parts")
	}
}

// TestShortLengths (P1.1): every length about the ends of the text's blocks,
// alone and behind another part, and lengths that take each of the four bytes.
func TestShortLengths(t *testing.T) {
	lengths := []int{65535, 65536, 65537, 1<<24 - 1, 1<<24 + 0x010203}
	for n := range 300 {
		lengths = append(lengths, n)
	}
	for _, n := range lengths {
		part := pattern(n)
		if hash.Short(5, part) != wantShort(5, [][]byte{part}) {
			t.Errorf("P1.1: a part of %d bytes", n)
		}
		if hash.Short(5, pattern(11), part) != wantShort(5, [][]byte{pattern(11), part}) {
			t.Errorf("P1.1: a second part of %d bytes", n)
		}
	}
}

// TestShortManyParts (P1.1): any number of parts.
func TestShortManyParts(t *testing.T) {
	var parts [][]byte
	for n := range 1000 {
		parts = append(parts, pattern(n%37))
		if got := hash.Short(9, parts...); got != wantShort(9, parts) {
			t.Fatalf("P1.1: %d parts", len(parts))
		}
	}
}

// TestShortNil (P1.1): a nil part is an empty one, a nil list is no parts.
func TestShortNil(t *testing.T) {
	if hash.Short(1, nil, []byte("a")) != hash.Short(1, []byte{}, []byte("a")) {
		t.Error("P1.1: a nil part")
	}
	var none [][]byte
	if hash.Short(1, none...) != hash.Short(1) || hash.Short(1, [][]byte{}...) != hash.Short(1) {
		t.Error("P1.1: a nil list")
	}
}

// TestShortLeavesArguments (P1.1): neither the list nor its parts, nor the
// room behind any of them, is changed.
func TestShortLeavesArguments(t *testing.T) {
	first, second, third := pattern(400), pattern(300), pattern(20)
	list := [][]byte{first[:100], second[:70], third[:5]}
	given := list[:2]
	want := wantShort(4, [][]byte{pattern(100), pattern(70)})
	for range 2 {
		if hash.Short(4, given...) != want {
			t.Error("P1.1: not the same")
		}
	}
	if !bytes.Equal(first, pattern(400)) || !bytes.Equal(second, pattern(300)) || !bytes.Equal(third, pattern(20)) {
		t.Error("P1.1: a part or the room behind it changed")
	}
	for i, part := range [][]byte{first[:100], second[:70], third[:5]} {
		if len(list[i]) != len(part) || cap(list[i]) != cap(part) || &list[i][0] != &part[0] {
			t.Errorf("P1.1: place %d of the list changed", i)
		}
	}
}

// TestKeepsNothing (P1.1): what was hashed may change without a trace in what
// was answered, or will be.
func TestKeepsNothing(t *testing.T) {
	b := pattern(100)
	sum, short := hash.Sum(b), hash.Short(1, b)
	clear(b)
	if sum != sha256.Sum256(pattern(100)) || short != wantShort(1, [][]byte{pattern(100)}) {
		t.Error("P1.1: an answer changed")
	}
	if hash.Sum(b) != sha256.Sum256(b) || hash.Short(1, b) != wantShort(1, [][]byte{b}) {
		t.Error("P1.1: old bytes were kept")
	}
}

// lists: all lists of up to n of the words.
func lists(words [][]byte, n int) [][][]byte {
	all := [][][]byte{nil}
	last := all
	for range n {
		var longer [][][]byte
		for _, head := range last {
			for _, word := range words {
				longer = append(longer, append(head[:len(head):len(head)], word))
			}
		}
		all = append(all, longer...)
		last = longer
	}
	return all
}

// TestUnlikeParts (P1.2): among words that look like lengths, or that run
// into each other, no two lists of parts, or tags, are hashed alike.
func TestUnlikeParts(t *testing.T) {
	words := [][]byte{
		{}, {0}, {1}, {0, 0, 0, 0}, {0, 0, 0, 1}, {0, 0, 0, 1, 0},
		[]byte("a"), []byte("b"), []byte("ab"), []byte("a\x00\x00\x00\x01b"),
	}
	type seen struct {
		tag   byte
		parts [][]byte
	}
	by := map[[8]byte]seen{}
	for _, tag := range []byte{0, 1, 255} {
		for _, parts := range lists(words, 4) {
			got := hash.Short(tag, parts...)
			if other, ok := by[got]; ok {
				t.Fatalf("P1.2: %d %q and %d %q are alike", tag, parts, other.tag, other.parts)
			}
			by[got] = seen{tag, parts}
		}
	}
}

// TestUnlikeNeighbours (P1.2): parts that make one text when they're joined.
func TestUnlikeNeighbours(t *testing.T) {
	whole := pattern(300)
	by := map[[8]byte]int{}
	for cut := range len(whole) + 1 {
		got := hash.Short(1, whole[:cut], whole[cut:])
		if other, ok := by[got]; ok {
			t.Fatalf("P1.2: cuts at %d and %d are alike", cut, other)
		}
		by[got] = cut
	}
	if _, ok := by[hash.Short(1, whole)]; ok {
		t.Error("P1.2: one part is like two")
	}
}
