package wire

import (
	"slices"

	"signet/api"
	"signet/name"
)

// What two bytes can tell: a count or a length, and the place of a pointer,
// whose upper two bits are set.
const (
	maxCount  = 1<<16 - 1
	maxPlaces = 1 << 14
	pointer   = 3 << 14
)

// sound: whether m can be written, however long it is.
func sound(m api.Message) bool {
	most := 15
	if m.Edns {
		most = 4095
	}
	if m.Op < 0 || m.Op > 15 || m.Code < 0 || m.Code > most {
		return false
	}
	return soundQuestions(m.Questions) && soundRecords(m.Answers) && soundRecords(m.Auth) && soundRecords(m.Add)
}

// soundQuestions: whether l can be a message's questions.
func soundQuestions(l []api.Question) bool {
	wrong := func(q api.Question) bool { return name.Check(q.Name) != api.OK }
	return len(l) <= maxCount && !slices.ContainsFunc(l, wrong)
}

// soundRecords: whether l can be a section of a message.
func soundRecords(l []api.Record) bool {
	wrong := func(x api.Record) bool {
		return name.Check(x.Name) != api.OK || len(x.Data) > maxCount
	}
	return len(l) <= maxCount && !slices.ContainsFunc(l, wrong)
}

// writer: a message as far as it has been written, and where in it each end
// of a name was first written, if a pointer can tell the place.
type writer struct {
	out    []byte
	places map[string]int
}

// begun: m's header and questions.
func begun(m api.Message) *writer {
	w := &writer{places: map[string]int{}}
	w.number16(m.Id)
	w.number16(flags(m))
	add := len(m.Add)
	if m.Edns {
		add++
	}
	for _, count := range [...]int{len(m.Questions), len(m.Answers), len(m.Auth), add} {
		w.number16(uint16(count))
	}
	for _, q := range m.Questions {
		w.name(q.Name)
		w.number16(q.Type)
		w.number16(q.Class)
	}
	return w
}

// flags: the header's second number.
func flags(m api.Message) uint16 {
	out := uint16(m.Op)<<11 | uint16(m.Code&15)
	out |= bit(m.Reply, flagReply) | bit(m.Aa, flagAa) | bit(m.Tc, flagTc)
	return out | bit(m.Rd, flagRd) | bit(m.Ra, flagRa)
}

// bit: flag, if it is on.
func bit(on bool, flag uint16) uint16 {
	if on {
		return flag
	}
	return 0
}

// opt: the record that says what m's header has no room for.
func opt(m api.Message) api.Record {
	ttl := uint32(m.Code>>4)<<24 | uint32(bit(m.Do, flagDo))
	return api.Record{Type: api.TypeOPT, Class: m.Size, Ttl: ttl}
}

// allRecords: those of m's sections, as they are written.
func allRecords(m api.Message) []api.Record {
	return slices.Concat(m.Answers, m.Auth, m.Add)
}

// records writes those of l until there are more than limit bytes, and tells
// how many of them there is room for.
func (w *writer) records(l []api.Record, limit int) int {
	for i, x := range l {
		w.record(x)
		if len(w.out) > limit {
			return i
		}
	}
	return len(l)
}

// record writes one.
func (w *writer) record(x api.Record) {
	w.name(x.Name)
	w.number16(x.Type)
	w.number16(x.Class)
	w.number16(uint16(x.Ttl >> 16))
	w.number16(uint16(x.Ttl))
	w.number16(uint16(len(x.Data)))
	w.out = append(w.out, x.Data...)
}

// name writes n, from its longest end that has a place on as a pointer.
func (w *writer) name(n api.Name) {
	rest := name.Wire(n)
	for len(rest) > 1 {
		place, ok := w.places[string(rest)]
		if ok {
			w.number16(pointer | uint16(place))
			return
		}
		if len(w.out) < maxPlaces {
			w.places[string(rest)] = len(w.out)
		}
		size := 1 + int(rest[0])
		w.out = append(w.out, rest[:size]...)
		rest = rest[size:]
	}
	w.out = append(w.out, 0)
}

// number16 writes a number in two bytes.
func (w *writer) number16(n uint16) {
	w.out = append(w.out, byte(n>>8), byte(n))
}
