package config

import (
	"bytes"

	"signet/api"
	"signet/name"
)

const (
	// timesSize: how many bytes the times have.
	timesSize = 8 * 4
	// tailSize: how many bytes stand behind the salt: Iter, H, Size.
	tailSize = 2 + 1 + 2
)

// Bytes: c as bytes, whether Check takes it or not.
func Bytes(c api.Config) []byte {
	out := name.Wire(c.Apex)
	for _, time := range [...]uint32{c.KeyTtl, c.Prop, c.DsTtl, c.DsProp, c.Valid, c.Lead, c.Gap, c.MaxTtl} {
		out = append32(out, time)
	}
	out = append(out, byte(len(c.Salt)))
	out = append(out, c.Salt...)
	out = append16(out, c.Iter)
	out = append(out, byte(c.H))
	return append16(out, c.Size)
}

// Open: the settings of which b is the bytes, whether Check takes them or not.
func Open(b []byte) (api.Config, api.Errno) {
	apex, size, e := name.Open(b)
	if e != api.OK {
		return api.Config{}, api.ErrConfig
	}
	rest := b[size:]
	if len(rest) <= timesSize {
		return api.Config{}, api.ErrConfig
	}
	behind := rest[timesSize+1:]
	saltSize := int(rest[timesSize])
	if len(behind) != saltSize+tailSize {
		return api.Config{}, api.ErrConfig
	}
	tail := behind[saltSize:]
	return api.Config{
		Apex:   apex,
		KeyTtl: number32(rest),
		Prop:   number32(rest[4:]),
		DsTtl:  number32(rest[8:]),
		DsProp: number32(rest[12:]),
		Valid:  number32(rest[16:]),
		Lead:   number32(rest[20:]),
		Gap:    number32(rest[24:]),
		MaxTtl: number32(rest[28:]),
		Salt:   bytes.Clone(behind[:saltSize]),
		Iter:   number16(tail),
		H:      int(tail[2]),
		Size:   number16(tail[3:]),
	}, api.OK
}

// append16: out, and behind it n in two bytes.
func append16(out []byte, n uint16) []byte {
	return append(out, byte(n>>8), byte(n))
}

// append32: out, and behind it n in four bytes.
func append32(out []byte, n uint32) []byte {
	return append16(append16(out, uint16(n>>16)), uint16(n))
}

// number16: the number of b's first two bytes.
func number16(b []byte) uint16 {
	return uint16(b[0])<<8 | uint16(b[1])
}

// number32: the number of b's first four bytes.
func number32(b []byte) uint32 {
	return uint32(number16(b))<<16 | uint32(number16(b[2:]))
}
