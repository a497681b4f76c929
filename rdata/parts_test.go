package rdata_test

import (
	"bytes"
	"fmt"
	"slices"
	"strings"
	"testing"

	"signet/api"
	"signet/rdata"
	"signet/rtype"
)

// together: the parts must be written as want, and be read of it again.
func together[T any](t *testing.T, parts T, want string, write func(T) []byte, read func([]byte) (T, api.Errno)) {
	t.Helper()
	if got := write(parts); string(got) != want {
		t.Errorf("P5.3: %.200s is written as %.200x, not %.200x", told(parts), got, want)
	}
	if got, e := read([]byte(want)); e != api.OK || told(got) != told(parts) {
		t.Errorf("P5.3: %.200x is read as %.200s, %v, not %.200s", want, told(got), e, told(parts))
	}
}

// notRead: b must be refused, with nothing beside the error.
func notRead[T any](t *testing.T, b string, read func([]byte) (T, api.Errno)) {
	t.Helper()
	var zero T
	if got, e := read([]byte(b)); e != api.ErrData || told(got) != told(zero) {
		t.Errorf("P5.3: %.200x is read as %.200s, %v", b, told(got), e)
	}
}

// TestSoa (P5.3): each part in its place, numbers with the highest byte first.
func TestSoa(t *testing.T) {
	together(t, api.Soa{}, "\x00\x00"+strings.Repeat("\x00", 20), rdata.SoaBytes, rdata.Soa)
	together(t, api.Soa{
		Main: api.Name{"Main"}, Box: api.Name{"Box", "x"}, Serial: 0x01020304, Refresh: 0x05060708,
		Retry: 0x090a0b0c, Expire: 0x0d0e0f10, Minimum: 0x11121314,
	}, "\x04Main\x00\x03Box\x01x\x00\x01\x02\x03\x04\x05\x06\x07\x08\x09\x0a\x0b\x0c\x0d\x0e\x0f\x10\x11\x12\x13\x14", rdata.SoaBytes, rdata.Soa)
	together(t, api.Soa{Main: sized(255), Box: sized(255), Minimum: 1<<32 - 1},
		string(wire(sized(255)))+string(wire(sized(255)))+strings.Repeat("\x00", 16)+"\xff\xff\xff\xff", rdata.SoaBytes, rdata.Soa)
	for _, wrong := range []string{
		"", "\x00", "\x00\x00", "\x00" + five, "\x00\x00" + five[1:], "\x00\x00" + five + "\x00",
		"\x01a" + five, "\x01a\x00\x01b" + five, "\xc0\x00\x00" + five, "\x00\xc0\x00" + five,
		string(wire(sized(256))) + "\x00" + five, "\x00" + string(wire(sized(256))) + five,
		strings.Repeat("\x00", 21), strings.Repeat("\x00", 23), strings.Repeat("\x00", 8192), strings.Repeat("\x00", 8193),
	} {
		notRead(t, wrong, rdata.Soa)
	}
}

// TestSig (P5.3): each part in its place; the signature is all that is left,
// which may be nothing.
func TestSig(t *testing.T) {
	together(t, api.Sig{}, strings.Repeat("\x00", 19), rdata.SigBytes, rdata.Sig)
	sig := api.Sig{
		Type: 0x0102, Alg: 3, Labels: 4, Ttl: 0x05060708, Expire: 0x090a0b0c, Begin: 0x0d0e0f10,
		Tag: 0x1112, Signer: api.Name{"Sig", "Ner"},
	}
	text := "\x01\x02\x03\x04\x05\x06\x07\x08\x09\x0a\x0b\x0c\x0d\x0e\x0f\x10\x11\x12\x03Sig\x03Ner\x00"
	for _, signature := range []string{"", "\x00", "S", "\x01a\x00", strings.Repeat("s", 300), strings.Repeat("s", 8192-len(text))} {
		sig.Signature = []byte(signature)
		together(t, sig, text+signature, rdata.SigBytes, rdata.Sig)
	}
	together(t, api.Sig{Type: 0xffff, Alg: 0xff, Labels: 0xff, Ttl: 1<<32 - 1, Expire: 1<<32 - 1, Begin: 1<<32 - 1, Tag: 0xffff, Signer: sized(255)},
		strings.Repeat("\xff", 18)+string(wire(sized(255))), rdata.SigBytes, rdata.Sig)
	for size := range text {
		notRead(t, text[:size], rdata.Sig)
	}
	for _, wrong := range []string{
		"", head, head + "\x01", head + "\x01a", head + "\xc0\x00", head + "\x40", head + string(wire(sized(256))),
		text + strings.Repeat("s", 8193-len(text)), strings.Repeat("\x00", 18), strings.Repeat("\x00", 8193),
	} {
		notRead(t, wrong, rdata.Sig)
	}
}

// TestChain (P5.3): each part in its place; salts of no bytes and of 255, no
// types and many.
func TestChain(t *testing.T) {
	together(t, api.Chain{Hash: 1, Flags: 2, Iter: 0x0304, Salt: []byte{5}, Next: []byte{6, 7}, Types: []uint16{1, 46, 300}},
		"\x01\x02\x03\x04\x01\x05\x02\x06\x07\x00\x06\x40\x00\x00\x00\x00\x02\x01\x06\x00\x00\x00\x00\x00\x08", rdata.ChainBytes, rdata.Chain)
	together(t, api.Chain{Next: []byte{0}}, "\x00\x00\x00\x00\x00\x01\x00", rdata.ChainBytes, rdata.Chain)
	together(t, api.Chain{Hash: 255, Flags: 255, Iter: 0xffff, Salt: []byte{0}, Next: []byte("N"), Types: []uint16{0, 65535}},
		"\xff\xff\xff\xff\x01\x00\x01N\x00\x01\x80\xff\x20"+strings.Repeat("\x00", 31)+"\x01", rdata.ChainBytes, rdata.Chain)
	for salt := range 256 {
		for _, next := range []int{1, 2, 20, 32, 254, 255} {
			for _, types := range [][]uint16{nil, {1}, {2, 5, 0x1234}} {
				c := api.Chain{Hash: 1, Iter: 7, Salt: bytes.Repeat([]byte{'s'}, salt), Next: bytes.Repeat([]byte{'n'}, next), Types: types}
				want := "\x01\x00\x00\x07" + string(counted(salt, 0)) + string(c.Salt) + string(counted(next, 0)) + string(c.Next) + string(rtype.Bitmap(types))
				together(t, c, want, rdata.ChainBytes, rdata.Chain)
			}
		}
	}
	for _, wrong := range []string{
		"", "\x01", "\x01\x00\x00\x05", "\x01\x00\x00\x05\x00", "\x01\x00\x00\x05\x00\x00", "\x01\x00\x00\x05\x00\x00\x00\x01\x40",
		"\x01\x00\x00\x05\x00\x01", "\x01\x00\x00\x05\x00\x02n", "\x01\x00\x00\x05\x02s\x01", "\x01\x00\x00\x05\xffs\x01n", "\x01\x00\x00\x05\x00\xffn",
		"\x01\x00\x00\x05\x00\x01n\x00", "\x01\x00\x00\x05\x00\x01n\x00\x00", "\x01\x00\x00\x05\x00\x01n\x00\x01\x00", "\x01\x00\x00\x05\x00\x01n\x00\x01\x40\x00\x01\x40",
		strings.Repeat("\x00", 8192), strings.Repeat("\x00", 8193),
		"\x01\x00\x00\x05\x00\x01n" + string(bitmap(8186)),
	} {
		notRead(t, wrong, rdata.Chain)
	}
}

// TestChainTypes (P5.3): types are written as rtype.Bitmap's, in whatever
// order they come; a next of no bytes, or of more than 255, has its length's
// lowest 8 bits.
func TestChainTypes(t *testing.T) {
	c := api.Chain{Hash: 1, Next: []byte("n"), Types: []uint16{300, 1, 46, 1, 300, 2}}
	want := "\x01\x00\x00\x00\x00\x01n" + string(rtype.Bitmap([]uint16{1, 2, 46, 300}))
	if got := rdata.ChainBytes(c); string(got) != want {
		t.Errorf("P5.3: %x, not %x", got, want)
	}
	for _, size := range []int{0, 1, 255, 256, 257, 511, 512, 70000} {
		c := api.Chain{Hash: 1, Salt: []byte("s"), Next: bytes.Repeat([]byte{'n'}, size), Types: []uint16{1}}
		want := "\x01\x00\x00\x00\x01s" + string([]byte{byte(size % 256)}) + string(c.Next) + "\x00\x01\x40"
		if got := rdata.ChainBytes(c); string(got) != want {
			t.Errorf("P5.3: a next of %d bytes: %.40x", size, got)
		}
	}
	var all []uint16
	for i := range 1 << 16 {
		all = append(all, uint16(i))
	}
	if got := rdata.ChainBytes(api.Chain{Next: []byte("n"), Types: all}); len(got) != 7+256*34 {
		t.Errorf("P5.3: all types: %d bytes", len(got))
	}
}

// TestKey (P5.3): each part in its place; the key is all that is left, which
// may be nothing.
func TestKey(t *testing.T) {
	together(t, api.KeyData{}, "\x00\x00\x00\x00", rdata.KeyBytes, rdata.Key)
	for _, key := range []string{"", "\x00", "Key", strings.Repeat("k", 256), strings.Repeat("k", 8188)} {
		together(t, api.KeyData{Flags: 0x0102, Proto: 3, Alg: 4, Key: []byte(key)}, "\x01\x02\x03\x04"+key, rdata.KeyBytes, rdata.Key)
		together(t, api.KeyData{Flags: 0xffff, Proto: 0xff, Alg: 0xff, Key: []byte(key)}, "\xff\xff\xff\xff"+key, rdata.KeyBytes, rdata.Key)
	}
	for _, wrong := range []string{"", "\x01", "\x01\x01", "\x01\x01\x03", strings.Repeat("k", 8193), strings.Repeat("k", 1<<16+4)} {
		notRead(t, wrong, rdata.Key)
	}
	if got := rdata.KeyBytes(api.KeyData{Flags: 257, Key: make([]byte, 70000)}); len(got) != 70004 {
		t.Errorf("P5.3: a long key: %d bytes", len(got))
	}
}

// TestEachBit (P5.3): each bit of each number stands where it must, and alone.
func TestEachBit(t *testing.T) {
	blank := strings.Repeat("\x00", 22)
	for bit := range 160 {
		b := []byte(blank)
		b[2+bit/8] |= 0x80 >> (bit % 8)
		var n [5]uint32
		n[bit/32] = 1 << (31 - bit%32)
		together(t, api.Soa{Serial: n[0], Refresh: n[1], Retry: n[2], Expire: n[3], Minimum: n[4]}, string(b), rdata.SoaBytes, rdata.Soa)
	}
	for bit := range 16 {
		one := uint16(0x8000) >> bit
		text := string([]byte{byte(one >> 8), byte(one)})
		together(t, api.Sig{Type: one}, text+blank[:17], rdata.SigBytes, rdata.Sig)
		together(t, api.Sig{Tag: one}, blank[:16]+text+"\x00", rdata.SigBytes, rdata.Sig)
		together(t, api.KeyData{Flags: one}, text+"\x00\x00", rdata.KeyBytes, rdata.Key)
		together(t, api.Chain{Iter: one, Next: []byte("n")}, "\x00\x00"+text+"\x00\x01n", rdata.ChainBytes, rdata.Chain)
	}
	for bit := range 96 {
		b := []byte(blank[:19])
		b[4+bit/8] |= 0x80 >> (bit % 8)
		var n [3]uint32
		n[bit/32] = 1 << (31 - bit%32)
		together(t, api.Sig{Ttl: n[0], Expire: n[1], Begin: n[2]}, string(b), rdata.SigBytes, rdata.Sig)
	}
}

// TestThereAndBack (P5.4): made-up parts are written, read, and written as
// they were.
func TestThereAndBack(t *testing.T) {
	r := &row{54}
	n16 := func() uint16 { return uint16(r.next(1 << 16)) }
	n32 := func() uint32 { return uint32(n16())<<16 | uint32(n16()) }
	for range 3000 {
		soa := api.Soa{Main: r.name(), Box: r.name(), Serial: n32(), Refresh: n32(), Retry: n32(), Expire: n32(), Minimum: n32()}
		together(t, soa, string(rdata.SoaBytes(soa)), rdata.SoaBytes, rdata.Soa)
		sig := api.Sig{Type: n16(), Alg: byte(n16()), Labels: byte(n16()), Ttl: n32(), Expire: n32(), Begin: n32(), Tag: n16(), Signer: r.name(), Signature: r.bytes(r.next(30))}
		together(t, sig, string(rdata.SigBytes(sig)), rdata.SigBytes, rdata.Sig)
		chain := api.Chain{Hash: byte(n16()), Flags: byte(n16()), Iter: n16(), Salt: r.bytes(r.next(20)), Next: r.bytes(1 + r.next(30)), Types: r.types()}
		together(t, chain, string(rdata.ChainBytes(chain)), rdata.ChainBytes, rdata.Chain)
		key := api.KeyData{Flags: n16(), Proto: byte(n16()), Alg: byte(n16()), Key: r.bytes(r.next(30))}
		together(t, key, string(rdata.KeyBytes(key)), rdata.KeyBytes, rdata.Key)
		for kind, b := range map[uint16][]byte{6: rdata.SoaBytes(soa), 46: rdata.SigBytes(sig), 50: rdata.ChainBytes(chain), 48: rdata.KeyBytes(key)} {
			taken(t, kind, b)
			for range 4 {
				changed := slices.Clone(b)
				changed[r.next(len(changed))] = byte(r.next(256))
				judged(t, kind, changed)
			}
		}
	}
}

// TestNamesThatMayNotBe (P5.3): calls end, whatever they are given.
func TestNamesThatMayNotBe(t *testing.T) {
	names := []api.Name{{""}, {"a", ""}, {label(64)}, {label(256)}, {label(70000)}, sized(256), slices.Repeat(api.Name{"a"}, 70000), slices.Repeat(api.Name{""}, 70000)}
	for _, n := range names {
		for kind, b := range map[uint16][]byte{
			6:  rdata.SoaBytes(api.Soa{Main: n, Box: n}),
			46: rdata.SigBytes(api.Sig{Signer: n, Signature: []byte("s")}),
			50: rdata.ChainBytes(api.Chain{Salt: make([]byte, 256), Next: []byte("n")}),
		} {
			judged(t, kind, b)
		}
	}
	for _, size := range []int{256, 257, 8192, 70000} {
		judged(t, 50, rdata.ChainBytes(api.Chain{Salt: bytes.Repeat([]byte{1}, size), Next: bytes.Repeat([]byte{1}, size)}))
	}
}

// TestLeavesParts (P5.3): lists that are handed in to be written, and the
// room behind them, stay as they were; what is written is new memory.
func TestLeavesParts(t *testing.T) {
	names := api.Name{"B", "A", "behind"}
	data := []byte("data and more")
	types := []uint16{300, 1, 300, 2, 9, 8}
	soa := api.Soa{Main: names[:2], Box: names[1:2]}
	sig := api.Sig{Signer: names[:2], Signature: data[:4]}
	chain := api.Chain{Salt: data[:4], Next: data[5:8], Types: types[:4]}
	key := api.KeyData{Key: data[:4]}
	write := func() [][]byte {
		return [][]byte{rdata.SoaBytes(soa), rdata.SigBytes(sig), rdata.ChainBytes(chain), rdata.KeyBytes(key)}
	}
	first := write()
	want := fmt.Sprint(first)
	for _, b := range first {
		clear(b[:cap(b)])
	}
	if !slices.Equal(names, api.Name{"B", "A", "behind"}) || string(data) != "data and more" || !slices.Equal(types, []uint16{300, 1, 300, 2, 9, 8}) {
		t.Errorf("P5.3: parts changed: %q, %q, %v", names, data, types)
	}
	if got := write(); fmt.Sprint(got) != want {
		t.Errorf("P5.3: two answers share memory: %x", got)
	}
}

// spoil: fills a list and the room behind it.
func spoil[T any](list []T, with T) {
	for i := range list[:cap(list)] {
		list[:cap(list)][i] = with
	}
}

// TestNewParts (P5.3): no list of what is answered shares memory with the
// data, with another list, or with another answer.
func TestNewParts(t *testing.T) {
	soaData := "\x01a\x01b\x00\x01c\x01d\x00" + five
	b := []byte(soaData)
	soa, _ := rdata.Soa(b)
	spoil(soa.Main, "x")
	if !slices.Equal(soa.Box, api.Name{"c", "d"}) || string(b) != soaData {
		t.Errorf("P5.3: Soa's lists share memory: %q, %x", soa.Box, b)
	}
	sigData := head + "\x01a\x01b\x00SIG"
	b = []byte(sigData)
	sig, _ := rdata.Sig(b)
	spoil(sig.Signature, 'x')
	spoil(sig.Signer, "x")
	again, _ := rdata.Sig(b)
	if string(b) != sigData || string(again.Signature) != "SIG" || !slices.Equal(again.Signer, api.Name{"a", "b"}) {
		t.Errorf("P5.3: Sig's lists share memory: %x", b)
	}
	chainData := "\x01\x00\x00\x05\x04SALT\x04NEXT\x00\x01\x40"
	b = []byte(chainData)
	chain, _ := rdata.Chain(b)
	spoil(chain.Salt, 'x')
	if string(chain.Next) != "NEXT" || string(b) != chainData {
		t.Errorf("P5.3: Chain's salt shares memory: %q, %x", chain.Next, b)
	}
	spoil(chain.Next, 'y')
	spoil(chain.Types, 7)
	if string(chain.Salt) != "xxxx" || string(b) != chainData {
		t.Errorf("P5.3: Chain's next shares memory: %q, %x", chain.Salt, b)
	}
	keyData := "\x01\x00\x03\xfdKEY"
	b = []byte(keyData)
	key, _ := rdata.Key(b)
	spoil(key.Key, 'x')
	if string(b) != keyData {
		t.Errorf("P5.3: Key's list is its argument's memory: %x", b)
	}
}
