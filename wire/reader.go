package wire

import (
	"bytes"

	"signet/api"
	"signet/name"
	"signet/rdata"
)

// reader: a message, and where in it is what comes next. It panics, where what
// it is asked for isn't there.
type reader struct {
	all []byte
	at  int
}

// message reads all of it.
func (r *reader) message() (m api.Message) {
	m.Id = r.number16()
	setFlags(&m, r.number16())
	questions, answers, auth, add := r.number16(), r.number16(), r.number16(), r.number16()
	for range questions {
		m.Questions = append(m.Questions, r.question())
	}
	m.Answers = r.records(answers, refuseOpt)
	m.Auth = r.records(auth, refuseOpt)
	m.Add = r.records(add, func(x api.Record) { takeOpt(&m, x) })
	if r.at != len(r.all) {
		panic(api.ErrWire)
	}
	return m
}

// setFlags lays what the header's second number says into m.
func setFlags(m *api.Message, flags uint16) {
	m.Reply = flags&flagReply != 0
	m.Op = int(flags >> 11 & 15)
	m.Aa = flags&flagAa != 0
	m.Tc = flags&flagTc != 0
	m.Rd = flags&flagRd != 0
	m.Ra = flags&flagRa != 0
	m.Code = int(flags & 15)
}

// refuseOpt: what becomes of an OPT that isn't where it may be.
func refuseOpt(api.Record) { panic(api.ErrWire) }

// takeOpt lays what the OPT x says into m.
func takeOpt(m *api.Message, x api.Record) {
	if m.Edns || len(x.Name) != 0 {
		panic(api.ErrWire)
	}
	m.Edns = true
	m.Size = x.Class
	m.Do = x.Ttl&flagDo != 0
	m.Code += int(x.Ttl>>24) * 16
}

// question reads one.
func (r *reader) question() (q api.Question) {
	q.Name = r.name()
	q.Type = r.number16()
	q.Class = r.number16()
	return q
}

// records reads so many of them, and hands each OPT to one that knows what
// becomes of it.
func (r *reader) records(count uint16, opt func(api.Record)) (out []api.Record) {
	for range count {
		x := r.record()
		if x.Type == api.TypeOPT {
			opt(x)
			continue
		}
		if x.Ttl >= 1<<31 {
			x.Ttl = 0
		}
		out = append(out, x)
	}
	return out
}

// record reads one, its Ttl as it stands: an OPT's has a meaning of its own.
func (r *reader) record() (x api.Record) {
	x.Name = r.name()
	x.Type = r.number16()
	x.Class = r.number16()
	x.Ttl = r.number32()
	size := int(r.number16())
	if x.Class != api.ClassIN || x.Type == api.TypeOPT {
		x.Data = r.bytes(size)
		return x
	}
	end := r.at + size
	x.Data = r.wholeData(x.Type, size)
	if r.at != end || rdata.Check(x.Type, x.Data) != api.OK {
		panic(api.ErrWire)
	}
	return x
}

// wholeData reads data of type t, and tells them with whole names. Those of
// compressed names may end elsewhere than behind size bytes.
func (r *reader) wholeData(t uint16, size int) []byte {
	switch t {
	case api.TypeNS, api.TypeCNAME:
		return r.wholeName()
	case api.TypeMX:
		first := r.bytes(2)
		return append(first, r.wholeName()...)
	case api.TypeSOA:
		names := r.wholeName()
		names = append(names, r.wholeName()...)
		return append(names, r.bytes(20)...)
	}
	return r.bytes(size)
}

// name reads a name.
func (r *reader) name() api.Name {
	// What wholeName tells is a name: there is no error to hand on.
	n, _, _ := name.Open(r.wholeName())
	return n
}

// wholeName reads a name, and tells it as name.Wire does.
func (r *reader) wholeName() (out []byte) {
	// The name's own part moves r on; those that are pointed to don't.
	elsewhere := &reader{all: r.all}
	part, begin := r, r.at
	for {
		first := int(part.number8())
		switch first >> 6 {
		case 0:
			out = append(append(out, byte(first)), part.take(first)...)
			if len(out) > api.MaxName {
				panic(api.ErrWire)
			}
			if first == 0 {
				return out
			}
		case 3:
			place := (first&63)<<8 | int(part.number8())
			// Each part lies ahead of the one before, so that they end.
			if place >= begin {
				panic(api.ErrWire)
			}
			part, begin, elsewhere.at = elsewhere, place, place
		default:
			panic(api.ErrWire)
		}
	}
}

// take reads so many bytes, and tells them where they stand.
func (r *reader) take(count int) []byte {
	if len(r.all)-r.at < count {
		panic(api.ErrWire)
	}
	r.at += count
	return r.all[r.at-count : r.at]
}

// bytes reads so many of them, and tells them in new memory.
func (r *reader) bytes(count int) []byte { return bytes.Clone(r.take(count)) }

// number8 reads a number of one byte.
func (r *reader) number8() byte { return r.take(1)[0] }

// number16 reads a number of two bytes.
func (r *reader) number16() uint16 {
	b := r.take(2)
	return uint16(b[0])<<8 | uint16(b[1])
}

// number32 reads a number of four bytes.
func (r *reader) number32() uint32 {
	high := r.number16()
	return uint32(high)<<16 | uint32(r.number16())
}
