package config_test

import (
	"bytes"
	"encoding/binary"
	"fmt"
	"math/rand"
	"slices"
	"strings"
	"testing"

	"signet/api"
	"signet/config"
)

// times: of eight numbers, in the order in which they are written.
const times = "\x00\x00\x00\x01\x00\x00\x00\x02\x00\x00\x00\x03\x00\x00\x00\x04\x00\x00\x00\x05\x00\x00\x00\x06\x00\x00\x00\x07\x00\x00\x00\x08"

// tail: Iter 3, H 6, Size 1232.
const tail = "\x00\x03\x06\x04\xd0"

// written: c's bytes, in the chapter's words.
func written(c api.Config) []byte {
	var b bytes.Buffer
	for _, l := range c.Apex {
		b.WriteByte(byte(len(l) & 0xff))
		b.WriteString(l)
	}
	b.WriteByte(0)
	for _, x := range []any{c.KeyTtl, c.Prop, c.DsTtl, c.DsProp, c.Valid, c.Lead, c.Gap, c.MaxTtl, byte(len(c.Salt) & 0xff), c.Salt, c.Iter, byte(c.H & 0xff), c.Size} {
		if err := binary.Write(&b, binary.BigEndian, x); err != nil {
			panic(err)
		}
	}
	return b.Bytes()
}

// told: c as a text; nil and empty lists are the same in it.
func told(c api.Config) string { return fmt.Sprintf("%q %x", []string(c.Apex), written(c)) }

// opened: b must be the settings want.
func opened(t *testing.T, b []byte, want api.Config) {
	t.Helper()
	c, e := config.Open(b)
	if e != api.OK || told(c) != told(want) || c.H != want.H {
		t.Errorf("P14.2: Open(%.80q): %.200s, %v, not %.200s", b, told(c), e, told(want))
	}
}

// refused: b must be no settings, with nothing beside the error.
func refused(t *testing.T, b []byte) {
	t.Helper()
	c, e := config.Open(b)
	if e != api.ErrConfig || told(c) != told(api.Config{}) || c.H != 0 {
		t.Errorf("P14.2: Open(%.80q): %.200s, %v", b, told(c), e)
	}
}

// anySettings: ones that Bytes writes and Open can read, taken by Check or not.
func anySettings(r *rand.Rand) api.Config {
	c := api.Config{
		KeyTtl: r.Uint32(), Prop: r.Uint32(), DsTtl: r.Uint32(), DsProp: r.Uint32(),
		Valid: r.Uint32(), Lead: r.Uint32(), Gap: r.Uint32(), MaxTtl: r.Uint32(),
		Salt: make([]byte, r.Intn(256)), Iter: uint16(r.Uint32()), H: r.Intn(256), Size: uint16(r.Uint32()),
	}
	r.Read(c.Salt)
	for range r.Intn(4) {
		l := make([]byte, 1+r.Intn(63))
		r.Read(l)
		c.Apex = append(c.Apex, string(l))
	}
	return c
}

// TestBytesKnown (P14.2): each part at its place, the highest byte first.
func TestBytesKnown(t *testing.T) {
	c := api.Config{
		Apex:   api.Name{"Zone", "example"},
		KeyTtl: 0x01020304, Prop: 0x11121314, DsTtl: 0x21222324, DsProp: 0x31323334,
		Valid: 0x41424344, Lead: 0x51525354, Gap: 0x61626364, MaxTtl: 0x71727374,
		Salt: []byte{0xaa, 0xbb, 0xcc}, Iter: 0x8182, H: 0x91, Size: 0xa1a2,
	}
	want := "\x04Zone\x07example\x00" +
		"\x01\x02\x03\x04\x11\x12\x13\x14\x21\x22\x23\x24\x31\x32\x33\x34" +
		"\x41\x42\x43\x44\x51\x52\x53\x54\x61\x62\x63\x64\x71\x72\x73\x74" +
		"\x03\xaa\xbb\xcc\x81\x82\x91\xa1\xa2"
	if got := config.Bytes(c); string(got) != want {
		t.Errorf("P14.2: %q, not %q", got, want)
	}
	opened(t, []byte(want), c)
	none := strings.Repeat("\x00", 1+32+1+5)
	if got := config.Bytes(api.Config{}); string(got) != none {
		t.Errorf("P14.2: %q, not %q", got, none)
	}
	opened(t, []byte(none), api.Config{})
}

// TestBytesAll (P14.2): settings that Check refuses too: of lengths and of H
// the lowest 8 bits are told.
func TestBytesAll(t *testing.T) {
	same := func(c api.Config) {
		t.Helper()
		if got := config.Bytes(c); !bytes.Equal(got, written(c)) {
			t.Errorf("P14.2: Bytes(%.80q): %.80q", told(c), got)
		}
	}
	for size := range 600 {
		c := settings()
		c.Salt = bytes.Repeat([]byte{7}, size)
		same(c)
	}
	for _, h := range []int{-1 << 63, -257, -256, -255, -1, 0, 1, 10, 11, 127, 128, 255, 256, 257, 0x1ff, 1<<63 - 1} {
		c := settings()
		c.H = h
		same(c)
	}
	for _, n := range []api.Name{nil, {""}, {"a", "", "b"}, {strings.Repeat("a", 64)}, {strings.Repeat("a", 256), "b"}, {strings.Repeat("a", 1000)}, sized(256), sized(70000)} {
		c := settings()
		c.Apex = n
		same(c)
	}
}

// TestOpenKnown (P14.2): settings that Check refuses are opened too.
func TestOpenKnown(t *testing.T) {
	base := api.Config{KeyTtl: 1, Prop: 2, DsTtl: 3, DsProp: 4, Valid: 5, Lead: 6, Gap: 7, MaxTtl: 8, Iter: 3, H: 6, Size: 1232}
	for _, n := range []api.Name{nil, {"a"}, {"A", "b"}, {"\x00", ".\\\xff"}, sized(200), sized(201), sized(255)} {
		for size := range 256 {
			c := base
			c.Apex, c.Salt = n, bytes.Repeat([]byte{byte(size)}, size)
			if config.Check(c) == api.OK {
				t.Fatal("the test's settings may be")
			}
			opened(t, written(c), c)
		}
	}
}

// TestOpenCut (P14.2): each beginning of settings' bytes, and more behind
// them.
func TestOpenCut(t *testing.T) {
	refused(t, nil)
	refused(t, []byte{})
	for _, salt := range []int{0, 1, 2, 16, 255} {
		for _, n := range []api.Name{nil, {"a"}, {"Zone", "example"}, sized(255)} {
			c := settings()
			c.Apex, c.Salt = n, make([]byte, salt)
			b := written(c)
			opened(t, b, c)
			for i := range b {
				// The bytes that lack stand in the spare room: they don't count.
				refused(t, b[:i])
				refused(t, b[:i:i])
			}
			for _, more := range []int{1, 2, 5, 256, 1 << 16} {
				refused(t, append(slices.Clip(b), make([]byte, more)...))
			}
		}
	}
}

// TestOpenSalt (P14.2): each length that may be told, of a salt of each size.
func TestOpenSalt(t *testing.T) {
	want := api.Config{Apex: api.Name{"a"}, KeyTtl: 1, Prop: 2, DsTtl: 3, DsProp: 4, Valid: 5, Lead: 6, Gap: 7, MaxTtl: 8, Iter: 3, H: 6, Size: 1232}
	for length := range 256 {
		for _, size := range []int{length - 1, length, length + 1, length + 5, length + 256} {
			if size < 0 {
				continue
			}
			salt := strings.Repeat("s", size)
			b := []byte("\x01a\x00" + times + string([]byte{byte(length)}) + salt + tail)
			if size == length {
				want.Salt = []byte(salt)
				opened(t, b, want)
			} else {
				refused(t, b)
			}
		}
	}
}

// TestOpenName (P14.2): names that name.Open refuses.
func TestOpenName(t *testing.T) {
	rest := times + "\x00" + tail
	opened(t, []byte("\x00"+rest), api.Config{KeyTtl: 1, Prop: 2, DsTtl: 3, DsProp: 4, Valid: 5, Lead: 6, Gap: 7, MaxTtl: 8, Iter: 3, H: 6, Size: 1232})
	for _, n := range []string{
		"", "\x01a", "\x40" + strings.Repeat("a", 64) + "\x00", "\xc0\x00", "\xff\x00", "\x01a\xc0\x00",
		strings.Repeat("\x01a", 128) + "\x00", strings.Repeat("\x3f"+strings.Repeat("a", 63), 4) + "\x00",
		strings.Repeat("\x01a", 1<<16) + "\x00",
	} {
		refused(t, []byte(n+rest))
	}
	c := settings()
	for _, n := range []api.Name{{"a", "", "b"}, {""}, {strings.Repeat("a", 64)}, sized(256)} {
		c.Apex = n
		refused(t, config.Bytes(c))
	}
}

// TestBack (P14.3): what is written is read back, and the other way round.
func TestBack(t *testing.T) {
	c := settings()
	if config.Check(c) != api.OK {
		t.Fatal("the test's settings may not be")
	}
	opened(t, config.Bytes(c), c)
	r := rand.New(rand.NewSource(143))
	for range 20000 {
		c := anySettings(r)
		b := config.Bytes(c)
		if !bytes.Equal(b, written(c)) {
			t.Fatalf("P14.2: Bytes(%s): %q", told(c), b)
		}
		got, e := config.Open(b)
		if e != api.OK || told(got) != told(c) || got.H != c.H {
			t.Fatalf("P14.3: %s, %v, not %s", told(got), e, told(c))
		}
		if again := config.Bytes(got); !bytes.Equal(again, b) {
			t.Fatalf("P14.3: %q, not %q", again, b)
		}
	}
}

// TestLeaves (P14.1 to P14.3): what is handed in, and the room behind it,
// stays as it was; no answer follows it.
func TestLeaves(t *testing.T) {
	apex := api.Name{"Zone", "example", "room"}
	salt := []byte("saltroom")
	c := settings()
	c.Apex, c.Salt = apex[:2], salt[:4]
	config.Check(c)
	b := config.Bytes(c)
	want := slices.Clone(b)
	if !slices.Equal(apex, api.Name{"Zone", "example", "room"}) || string(salt) != "saltroom" {
		t.Errorf("P14.2: %q, %q", apex, salt)
	}
	clear(apex)
	clear(salt)
	if !bytes.Equal(b, want) {
		t.Errorf("P14.2: an answer of Bytes follows what was handed in")
	}
	room := append(slices.Clone(b), "room"...)
	got, e := config.Open(room[:len(b)])
	if e != api.OK || string(room) != string(want)+"room" {
		t.Errorf("P14.2: %v, %q", e, room)
	}
	clear(room)
	if !bytes.Equal(config.Bytes(got), want) {
		t.Errorf("P14.2: an answer of Open follows what was handed in")
	}
}

// TestNewMemory (P14.2): no two answers share any.
func TestNewMemory(t *testing.T) {
	c := settings()
	want := written(c)
	first := config.Bytes(c)
	clear(first[:cap(first)])
	if !bytes.Equal(config.Bytes(c), want) {
		t.Errorf("P14.2: two answers of Bytes share memory")
	}
	b := slices.Clone(want)
	got, _ := config.Open(b)
	clear(got.Salt[:cap(got.Salt)])
	clear(got.Apex[:cap(got.Apex)])
	if !bytes.Equal(b, want) {
		t.Errorf("P14.2: Open answers its argument's memory")
	}
	opened(t, b, c)
}

// FuzzOpen (P14.2, P14.3): any bytes are refused, or are just their
// settings' bytes.
func FuzzOpen(f *testing.F) {
	f.Add(written(settings()))
	f.Add([]byte(times + times))
	f.Fuzz(func(t *testing.T, b []byte) {
		c, e := config.Open(b)
		if e != api.OK {
			refused(t, b)
		} else if !bytes.Equal(written(c), b) || !bytes.Equal(config.Bytes(c), b) {
			t.Errorf("P14.3: Open(%q): %+v", b, c)
		}
		if ok := config.Check(c) == api.OK; ok != right(c) {
			t.Errorf("P14.1: Check(%+v): %v", c, ok)
		}
	})
}
