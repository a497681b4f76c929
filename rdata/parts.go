package rdata

import (
	"signet/api"
	"signet/name"
	"signet/rtype"
)

// Soa: the parts of an SOA's data.
func Soa(b []byte) (api.Soa, api.Errno) { return whole(b, takeSoa) }

// Sig: the parts of an RRSIG's data.
func Sig(b []byte) (api.Sig, api.Errno) { return whole(b, takeSig) }

// Chain: the parts of an NSEC3's data.
func Chain(b []byte) (api.Chain, api.Errno) { return whole(b, takeChain) }

// Key: the parts of a DNSKEY's data.
func Key(b []byte) (api.KeyData, api.Errno) { return whole(b, takeKey) }

// SoaBytes: s as an SOA's data.
func SoaBytes(s api.Soa) []byte {
	out := append(name.Wire(s.Main), name.Wire(s.Box)...)
	out = append32(out, s.Serial)
	out = append32(out, s.Refresh)
	out = append32(out, s.Retry)
	out = append32(out, s.Expire)
	return append32(out, s.Minimum)
}

// SigBytes: s as an RRSIG's data.
func SigBytes(s api.Sig) []byte {
	out := append16(nil, s.Type)
	out = append(out, s.Alg, s.Labels)
	out = append32(out, s.Ttl)
	out = append32(out, s.Expire)
	out = append32(out, s.Begin)
	out = append16(out, s.Tag)
	out = append(out, name.Wire(s.Signer)...)
	return append(out, s.Signature...)
}

// ChainBytes: c as an NSEC3's data.
func ChainBytes(c api.Chain) []byte {
	out := append16([]byte{c.Hash, c.Flags}, c.Iter)
	out = appendCounted(out, c.Salt)
	out = appendCounted(out, c.Next)
	return append(out, rtype.Bitmap(c.Types)...)
}

// KeyBytes: k as a DNSKEY's data.
func KeyBytes(k api.KeyData) []byte {
	out := append(append16(nil, k.Flags), k.Proto, k.Alg)
	return append(out, k.Key...)
}

// takeSoa reads an SOA's parts.
func takeSoa(r *reader) (s api.Soa) {
	s.Main = r.name()
	s.Box = r.name()
	s.Serial = r.number32()
	s.Refresh = r.number32()
	s.Retry = r.number32()
	s.Expire = r.number32()
	s.Minimum = r.number32()
	return s
}

// takeSig reads an RRSIG's parts.
func takeSig(r *reader) (s api.Sig) {
	s.Type = r.number16()
	s.Alg = r.number8()
	s.Labels = r.number8()
	s.Ttl = r.number32()
	s.Expire = r.number32()
	s.Begin = r.number32()
	s.Tag = r.number16()
	s.Signer = r.name()
	s.Signature = r.others()
	return s
}

// takeChain reads an NSEC3's parts.
func takeChain(r *reader) (c api.Chain) {
	c.Hash = r.number8()
	c.Flags = r.number8()
	c.Iter = r.number16()
	c.Salt = r.counted()
	c.Next = r.counted()
	if len(c.Next) == 0 {
		panic(api.ErrData)
	}
	types, e := rtype.Open(r.others())
	if e != api.OK {
		panic(api.ErrData)
	}
	c.Types = types
	return c
}

// takeKey reads a DNSKEY's parts.
func takeKey(r *reader) (k api.KeyData) {
	k.Flags = r.number16()
	k.Proto = r.number8()
	k.Alg = r.number8()
	k.Key = r.others()
	return k
}
