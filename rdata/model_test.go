package rdata_test

import (
	"bytes"
	"encoding/binary"
	"fmt"
	"strings"
	"testing"

	"signet/api"
	"signet/rdata"
	"signet/rtype"
)

// row: numbers that follow from a seed.
type row struct{ n uint64 }

func (r *row) next(n int) int {
	r.n = r.n*6364136223846793005 + 1442695040888963407
	return int(r.n >> 33 % uint64(n))
}

// bytes: so many, among which small numbers and letters are common.
func (r *row) bytes(n int) []byte {
	b := make([]byte, n)
	for i := range b {
		switch r.next(3) {
		case 0:
			b[i] = byte(r.next(4))
		case 1:
			b[i] = "AZaz@[`{"[r.next(8)]
		default:
			b[i] = byte(r.next(256))
		}
	}
	return b
}

// name: one of few labels.
func (r *row) name() api.Name {
	var n api.Name
	for range r.next(4) {
		n = append(n, string(r.bytes(1+r.next(5))))
	}
	return n
}

// types: some, unlike each other, rising.
func (r *row) types() []uint16 {
	var l []uint16
	for range r.next(6) {
		l = append(l, uint16(r.next(1<<(1+r.next(16)))))
	}
	return rtype.Clean(l)
}

// knownTypes: those whose data have a form.
func knownTypes() []uint16 { return []uint16{1, 2, 5, 6, 15, 16, 28, 43, 46, 48, 50, 51} }

// layout: the form of a type's data, part by part: a digit is so many bytes,
// n a name, c a length and so many bytes, C the same, but not none, t texts,
// m a bitmap, r all that is left, R the same, but not nothing.
func layout(kind uint16) string {
	switch kind {
	case 1:
		return "4"
	case 2, 5:
		return "n"
	case 6:
		return "nn44444"
	case 15:
		return "2n"
	case 16:
		return "t"
	case 28:
		return "88"
	case 43:
		return "4R"
	case 46:
		return "2114442nr"
	case 48:
		return "211r"
	case 50:
		return "112cCm"
	case 51:
		return "4c"
	}
	return "r"
}

// split: b part by part; false, if it isn't of that form.
func split(form string, b []byte) ([][]byte, bool) {
	var parts [][]byte
	for _, f := range form {
		size := partSize(f, b)
		if size < 0 || size > len(b) {
			return nil, false
		}
		parts = append(parts, b[:size])
		b = b[size:]
	}
	return parts, len(b) == 0
}

// partSize: how many bytes the part at b's beginning has; below 0, if there
// is none.
func partSize(f rune, b []byte) int {
	switch {
	case f == 'r' || f == 'R' && len(b) > 0:
		return len(b)
	case f == 'm':
		if _, e := rtype.Open(b); e == api.OK {
			return len(b)
		}
	case f == 'n':
		return nameSize(b)
	case f == 'c' && len(b) > 0 || f == 'C' && len(b) > 0 && b[0] > 0:
		return 1 + int(b[0])
	case f == 't' && len(b) > 0:
		at := 0
		for at < len(b) {
			at += 1 + int(b[at])
		}
		return at
	case '0' <= f && f <= '9':
		return int(f - '0')
	}
	return -1
}

// nameSize: how many bytes the name at b's beginning has, at most 255; below
// 0, if there is none.
func nameSize(b []byte) int {
	for at := 0; at < len(b) && at < 255 && b[at] < 64; at += 1 + int(b[at]) {
		if b[at] == 0 {
			return at + 1
		}
	}
	return -1
}

// canon: the parts together again, the names in small letters.
func canon(form string, parts [][]byte) []byte {
	var out []byte
	for i, f := range form {
		if f == 'n' {
			out = append(out, wire(labelsOf(parts[i], smallByte))...)
		} else {
			out = append(out, parts[i]...)
		}
	}
	return out
}

// smallByte, sameByte: what becomes of a label's byte.
func smallByte(c byte) byte {
	if strings.IndexByte("ABCDEFGHIJKLMNOPQRSTUVWXYZ", c) >= 0 {
		return c ^ 0x20
	}
	return c
}

func sameByte(c byte) byte { return c }

// labelsOf: the labels of a right name's bytes, each byte as turn says.
func labelsOf(b []byte, turn func(byte) byte) api.Name {
	var n api.Name
	for b[0] != 0 {
		label := make([]byte, b[0])
		for i := range label {
			label[i] = turn(b[1+i])
		}
		n = append(n, string(label))
		b = b[1+len(label):]
	}
	return n
}

// wire: n's bytes.
func wire(n api.Name) []byte {
	var out []byte
	for _, label := range n {
		out = append(out, byte(len(label)))
		out = append(out, label...)
	}
	return append(out, 0)
}

// label: one of size bytes.
func label(size int) string { return strings.Repeat("L", size) }

// sized: a name whose wire form has size bytes (not 2).
func sized(size int) api.Name {
	var n api.Name
	for left := size - 1; left > 0; {
		take := min(left, 64)
		if left-take == 1 {
			take--
		}
		n = append(n, label(take-1))
		left -= take
	}
	return n
}

// join: the pieces behind one another, in new memory.
func join(pieces ...[]byte) []byte { return bytes.Join(pieces, nil) }

// told: what v says, a nil list as an empty one.
func told(v any) string { return fmt.Sprintf("%x", v) }

// number: a part's number.
func number[N uint16 | uint32](part []byte) N {
	if len(part) == 2 {
		return N(binary.BigEndian.Uint16(part))
	}
	return N(binary.BigEndian.Uint32(part))
}

// soaOf, sigOf, chainOf, keyOf: what the parts say.
func soaOf(p [][]byte) api.Soa {
	return api.Soa{
		Main: labelsOf(p[0], sameByte), Box: labelsOf(p[1], sameByte),
		Serial: number[uint32](p[2]), Refresh: number[uint32](p[3]), Retry: number[uint32](p[4]),
		Expire: number[uint32](p[5]), Minimum: number[uint32](p[6]),
	}
}

func sigOf(p [][]byte) api.Sig {
	return api.Sig{
		Type: number[uint16](p[0]), Alg: p[1][0], Labels: p[2][0],
		Ttl: number[uint32](p[3]), Expire: number[uint32](p[4]), Begin: number[uint32](p[5]),
		Tag: number[uint16](p[6]), Signer: labelsOf(p[7], sameByte), Signature: p[8],
	}
}

func chainOf(p [][]byte) api.Chain {
	types, _ := rtype.Open(p[5])
	return api.Chain{
		Hash: p[0][0], Flags: p[1][0], Iter: number[uint16](p[2]),
		Salt: p[3][1:], Next: p[4][1:], Types: types,
	}
}

func keyOf(p [][]byte) api.KeyData {
	return api.KeyData{Flags: number[uint16](p[0]), Proto: p[1][0], Alg: p[2][0], Key: p[3]}
}

// judged: b must be answered by all calls as data of that type are; whether
// it is right.
func judged(t *testing.T, kind uint16, b []byte) bool {
	t.Helper()
	parts, ok := split(layout(kind), b)
	ok = ok && len(b) <= 8192
	if e := rdata.Check(kind, b); e != errno(ok) {
		t.Errorf("P5.1: Check(%d, %.80x) of %d bytes: %v, not %v", kind, b, len(b), e, errno(ok))
	}
	judgedCanon(t, kind, b, parts, ok)
	judgedTarget(t, kind, b, parts, ok)
	judgedParts(t, kind, b, parts, ok)
	return ok
}

// errno: the error of what is right, or isn't.
func errno(ok bool) api.Errno {
	if ok {
		return api.OK
	}
	return api.ErrData
}

func judgedCanon(t *testing.T, kind uint16, b []byte, parts [][]byte, ok bool) {
	t.Helper()
	var want []byte
	if ok {
		want = canon(layout(kind), parts)
	}
	if got, e := rdata.Canon(kind, b); e != errno(ok) || !bytes.Equal(got, want) {
		t.Errorf("P5.2: Canon(%d, %.80x): %.80x, %v, not %.80x, %v", kind, b, got, e, want, errno(ok))
	}
}

func judgedTarget(t *testing.T, kind uint16, b []byte, parts [][]byte, ok bool) {
	t.Helper()
	ok = ok && (kind == 2 || kind == 5 || kind == 15)
	var want api.Name
	if ok {
		want = labelsOf(parts[len(parts)-1], sameByte)
	}
	if got, e := rdata.Target(kind, b); e != errno(ok) || told(got) != told(want) {
		t.Errorf("P5.2: Target(%d, %.80x): %.80q, %v, not %.80q, %v", kind, b, got, e, want, errno(ok))
	}
}

func judgedParts(t *testing.T, kind uint16, b []byte, parts [][]byte, ok bool) {
	t.Helper()
	switch kind {
	case 6:
		got, e := rdata.Soa(b)
		judgedAs(t, "Soa", b, got, e, parts, ok, soaOf, rdata.SoaBytes)
	case 46:
		got, e := rdata.Sig(b)
		judgedAs(t, "Sig", b, got, e, parts, ok, sigOf, rdata.SigBytes)
	case 48:
		got, e := rdata.Key(b)
		judgedAs(t, "Key", b, got, e, parts, ok, keyOf, rdata.KeyBytes)
	case 50:
		got, e := rdata.Chain(b)
		judgedAs(t, "Chain", b, got, e, parts, ok, chainOf, rdata.ChainBytes)
	}
}

func judgedAs[T any](t *testing.T, call string, b []byte, got T, e api.Errno, parts [][]byte, ok bool, of func([][]byte) T, together func(T) []byte) {
	t.Helper()
	var want T
	if ok {
		want = of(parts)
	}
	if e != errno(ok) || told(got) != told(want) {
		t.Errorf("P5.3: %s(%.80x): %.200s, %v, not %.200s, %v", call, b, told(got), e, told(want), errno(ok))
	}
	if ok && !bytes.Equal(together(got), b) {
		t.Errorf("P5.4: %s: %.80x is put together as %.80x", call, b, together(got))
	}
}
