package journal_test

import (
	"bytes"
	"hash/crc32"
	"math/rand"
	"testing"

	"signet/journal"
)

// slowCrc: P12.1's words, bit by bit.
func slowCrc(b []byte) uint32 {
	crc := uint32(0xffffffff)
	for _, x := range b {
		for bit := range 8 {
			low := crc&1 != uint32(x>>bit&1)
			crc >>= 1
			if low {
				crc ^= 0xedb88320
			}
		}
	}
	return crc ^ 0xffffffff
}

// TestCrcKnown (P12.1): sums that are known from elsewhere.
func TestCrcKnown(t *testing.T) {
	known := map[string]uint32{
		"":                 0,
		"a":                0xe8b7be43,
		"abc":              0x352441c2,
		"123456789":        0xcbf43926,
		"\x00\x00\x00\x00": 0x2144df1c,
		"\xff\xff\xff\xff": 0xffffffff,
		"The quick brown fox jumps over the lazy dog": 0x414fa339,
	}
	for text, want := range known {
		if got := journal.Crc([]byte(text)); got != want {
			t.Errorf("P12.1: Crc(%q): %08x, not %08x", text, got, want)
		}
	}
	if journal.Crc(nil) != 0 {
		t.Error("P12.1: Crc(nil)")
	}
}

// TestCrcAny (P12.1): each byte alone, each length, against two other ways; the argument stays.
func TestCrcAny(t *testing.T) {
	r := rand.New(rand.NewSource(1))
	check := func(b []byte) {
		t.Helper()
		room := append(bytes.Clone(b), "room"...)
		got := journal.Crc(room[:len(b)])
		if got != slowCrc(b) || got != crc32.ChecksumIEEE(b) {
			t.Fatalf("P12.1: Crc(%.40x): %08x, not %08x", b, got, slowCrc(b))
		}
		if !bytes.Equal(room, append(bytes.Clone(b), "room"...)) {
			t.Fatal("P12.1: Crc changed what it was handed")
		}
	}
	for x := range 256 {
		check([]byte{byte(x)})
	}
	for n := range 600 {
		check(anyBytes(r, n))
		check(make([]byte, n))
	}
	check(anyBytes(r, 1<<16+1))
}
