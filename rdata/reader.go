package rdata

import (
	"bytes"

	"signet/api"
	"signet/name"
)

// reader: what of some data hasn't been read yet. What it tells is new
// memory; it panics, where what it is asked for isn't there.
type reader struct{ rest []byte }

// whole: what take reads of b, if that is all of b; ErrData, if b can't be
// read so.
func whole[T any](b []byte, take func(*reader) T) (out T, e api.Errno) {
	defer func() {
		// Nothing was answered yet where something panics: out is zero.
		if recover() != nil {
			e = api.ErrData
		}
	}()
	if len(b) > api.MaxData {
		panic(api.ErrData)
	}
	r := &reader{rest: b}
	got := take(r)
	if !r.done() {
		panic(api.ErrData)
	}
	return got, api.OK
}

// done: whether all has been read.
func (r *reader) done() bool { return len(r.rest) == 0 }

// bytes reads so many of them.
func (r *reader) bytes(count int) []byte {
	if len(r.rest) < count {
		panic(api.ErrData)
	}
	out := bytes.Clone(r.rest[:count])
	r.rest = r.rest[count:]
	return out
}

// others reads all bytes that are left.
func (r *reader) others() []byte { return r.bytes(len(r.rest)) }

// counted reads a length, and so many bytes.
func (r *reader) counted() []byte { return r.bytes(int(r.number8())) }

// number8 reads a number of one byte.
func (r *reader) number8() byte { return r.bytes(1)[0] }

// number16 reads a number of two bytes.
func (r *reader) number16() uint16 {
	b := r.bytes(2)
	return uint16(b[0])<<8 | uint16(b[1])
}

// number32 reads a number of four bytes.
func (r *reader) number32() uint32 {
	high := r.number16()
	return uint32(high)<<16 | uint32(r.number16())
}

// name reads a name.
func (r *reader) name() api.Name {
	n, size, e := name.Open(r.rest)
	if e != api.OK {
		panic(api.ErrData)
	}
	r.rest = r.rest[size:]
	return n
}

// append16: out, and behind it n in two bytes.
func append16(out []byte, n uint16) []byte {
	return append(out, byte(n>>8), byte(n))
}

// append32: out, and behind it n in four bytes.
func append32(out []byte, n uint32) []byte {
	return append16(append16(out, uint16(n>>16)), uint16(n))
}

// appendCounted: out, and behind it b's length (its lowest 8 bits) and bytes.
func appendCounted(out, b []byte) []byte {
	return append(append(out, byte(len(b))), b...)
}
