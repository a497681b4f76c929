package wire_test

import (
	"bytes"
	"encoding/binary"
	"fmt"
	"slices"
	"strings"
	"testing"

	"signet/api"
	"signet/rdata"
	"signet/wire"
)

// row: numbers that follow from a seed.
type row struct{ n uint64 }

func (r *row) next(n int) int {
	r.n = r.n*6364136223846793005 + 1442695040888963407
	return int(r.n >> 33 % uint64(n))
}

// bytes: so many.
func (r *row) bytes(n int) []byte {
	b := make([]byte, n)
	for i := range b {
		b[i] = byte(r.next(256))
	}
	return b
}

// flag: one of both.
func (r *row) flag() bool { return r.next(2) == 0 }

// name: one of few labels out of few, so that ends of names come again.
func (r *row) name() api.Name {
	var n api.Name
	for range r.next(5) {
		n = append(n, []string{"a", "A", "b", "zone", "\x00\xc0."}[r.next(5)])
	}
	return n
}

// record: one that is read as it is written.
func (r *row) record() api.Record {
	x := api.Record{Name: r.name(), Class: api.ClassIN, Ttl: uint32(r.next(1 << 31))}
	switch r.next(9) {
	case 0:
		x.Type, x.Data = api.TypeNS, flat(r.name())
	case 1:
		x.Type, x.Data = api.TypeCNAME, flat(r.name())
	case 2:
		x.Type, x.Data = api.TypeMX, append(r.bytes(2), flat(r.name())...)
	case 3:
		x.Type, x.Data = api.TypeSOA, join(flat(r.name()), flat(r.name()), r.bytes(20))
	case 4:
		x.Type, x.Data = api.TypeA, r.bytes(4)
	case 5:
		x.Type, x.Data = api.TypeTXT, counted(r.bytes(r.next(100)))
	case 6:
		x.Type, x.Data = api.TypeRRSIG, join([]byte{0, byte(r.next(3))}, r.bytes(16), flat(r.name()), r.bytes(r.next(80)))
	case 7:
		x.Type, x.Data = 999, r.bytes(r.next(60))
	default:
		x.Type, x.Class, x.Data = []uint16{1, 2, 5, 6, 15, 46}[r.next(6)], []uint16{254, 255, 3}[r.next(3)], r.bytes(r.next(9))
	}
	return x
}

// records: some, of which some follow one another as sets do.
func (r *row) records(most int) (l []api.Record) {
	for range r.next(most) {
		x := r.record()
		l = append(l, x)
		for r.next(3) == 0 {
			l = append(l, x)
		}
	}
	return l
}

// message: one that is read as it is written.
func (r *row) message() api.Message {
	m := api.Message{Id: uint16(r.next(65536)), Reply: r.flag(), Op: r.next(16), Aa: r.flag(), Tc: r.flag(), Rd: r.flag(), Ra: r.flag(), Code: r.next(16)}
	for range r.next(3) {
		m.Questions = append(m.Questions, api.Question{Name: r.name(), Type: uint16(r.next(65536)), Class: uint16(r.next(65536))})
	}
	m.Answers, m.Auth, m.Add = r.records(6), r.records(5), r.records(4)
	if r.flag() {
		m.Edns, m.Size, m.Do, m.Code = true, uint16(r.next(65536)), r.flag(), r.next(4096)
	}
	return m
}

// join: the pieces behind one another.
func join(pieces ...[]byte) []byte { return bytes.Join(pieces, nil) }

// counted: a length and the bytes.
func counted(b []byte) []byte { return append([]byte{byte(len(b))}, b...) }

// flat: a name, not compressed.
func flat(n api.Name) []byte {
	var b []byte
	for _, l := range n {
		b = append(b, counted([]byte(l))...)
	}
	return append(b, 0)
}

// sized: a name of so many bytes, 3 at least.
func sized(size int) api.Name {
	var n api.Name
	for size > 66 {
		n = append(n, strings.Repeat("l", 63))
		size -= 64
	}
	if size > 64 {
		n = append(n, "l")
		size -= 2
	}
	return append(n, strings.Repeat("e", size-2))
}

// told: v as a text, in which no list and an empty one are the same.
func told(v any) string { return fmt.Sprintf("%+x", v) }

// nameAt: the name at a place, where what is behind it begins, and whether
// there is one: its labels, and behind them a nought, or another name.
func nameAt(b []byte, begin int) (n api.Name, next int, ok bool) {
	at := begin
	for at < len(b) && b[at] > 0 && b[at] < 64 && at+int(b[at]) < len(b) {
		n = append(n, string(b[at+1:at+1+int(b[at])]))
		at += 1 + int(b[at])
	}
	if at >= len(b) || b[at] > 0 && b[at] < 192 || len(flat(n)) > 255 {
		return nil, 0, false
	}
	if b[at] == 0 {
		return n, at + 1, true
	}
	if at+1 >= len(b) {
		return nil, 0, false
	}
	place := int(binary.BigEndian.Uint16(b[at:])) - 3<<14
	if place >= begin {
		return nil, 0, false
	}
	end, _, ok := nameAt(b, place)
	n = append(n, end...)
	return n, at + 2, ok && len(flat(n)) <= 255
}

// forms: where names stand among the data of types whose names may be
// compressed: bytes ahead of them, how many, bytes behind them.
func forms(kind, class uint16) (ahead, names, behind int) {
	switch {
	case class != 1:
	case kind == 2, kind == 5:
		return 0, 1, 0
	case kind == 15:
		return 2, 1, 0
	case kind == 6:
		return 0, 2, 20
	}
	return 0, 0, 0
}

// dataAt: the data of size bytes at a place, with whole names.
func dataAt(b []byte, at, size int, kind, class uint16) ([]byte, bool) {
	end := at + size
	if end > len(b) {
		return nil, false
	}
	ahead, names, behind := forms(kind, class)
	if names == 0 {
		out := bytes.Clone(b[at:end])
		return out, class != 1 || kind == 41 || rdata.Check(kind, out) == api.OK
	}
	if size < ahead+names+behind {
		return nil, false
	}
	out := bytes.Clone(b[at : at+ahead])
	at += ahead
	for range names {
		n, next, ok := nameAt(b, at)
		if !ok {
			return nil, false
		}
		out, at = append(out, flat(n)...), next
	}
	if at != end-behind {
		return nil, false
	}
	return append(out, b[at:end]...), true
}

// recordAt: the record at a place, its Ttl as it stands.
func recordAt(b []byte, at int) (x api.Record, next int, ok bool) {
	x.Name, at, ok = nameAt(b, at)
	if !ok || at+10 > len(b) {
		return x, 0, false
	}
	x.Type, x.Class = binary.BigEndian.Uint16(b[at:]), binary.BigEndian.Uint16(b[at+2:])
	x.Ttl = binary.BigEndian.Uint32(b[at+4:])
	size := int(binary.BigEndian.Uint16(b[at+8:]))
	x.Data, ok = dataAt(b, at+10, size, x.Type, x.Class)
	return x, at + 10 + size, ok
}

// readIn: what the chapter says of Read(b).
func readIn(b []byte) (api.Message, api.Errno) {
	var none api.Message
	if len(b) > 65535 {
		return none, api.ErrWireLong
	}
	if len(b) < 12 {
		return none, api.ErrWire
	}
	m := api.Message{Id: binary.BigEndian.Uint16(b), Reply: b[2] > 127, Op: int(b[2] / 8 % 16), Aa: b[2]/4%2 == 1, Tc: b[2]/2%2 == 1, Rd: b[2]%2 == 1, Ra: b[3] > 127, Code: int(b[3] % 16)}
	at := 12
	for range binary.BigEndian.Uint16(b[4:]) {
		n, next, ok := nameAt(b, at)
		if !ok || next+4 > len(b) {
			return none, api.ErrWire
		}
		m.Questions = append(m.Questions, api.Question{Name: n, Type: binary.BigEndian.Uint16(b[next:]), Class: binary.BigEndian.Uint16(b[next+2:])})
		at = next + 4
	}
	for i, list := range []*[]api.Record{&m.Answers, &m.Auth, &m.Add} {
		for range binary.BigEndian.Uint16(b[6+2*i:]) {
			x, next, ok := recordAt(b, at)
			if !ok || x.Type == 41 && (i < 2 || m.Edns || len(x.Name) > 0) {
				return none, api.ErrWire
			}
			at = next
			if x.Type == 41 {
				m.Edns, m.Size, m.Do = true, x.Class, x.Ttl&0x8000 > 0
				m.Code += int(x.Ttl / (1 << 24) * 16)
				continue
			}
			if x.Ttl > 1<<31-1 {
				x.Ttl = 0
			}
			*list = append(*list, x)
		}
	}
	if at != len(b) {
		return none, api.ErrWire
	}
	return m, api.OK
}

// judged: Read(b) must be as the chapter says; what it answered.
func judged(t *testing.T, b []byte) (api.Message, api.Errno) {
	t.Helper()
	m, e := wire.Read(b)
	want, wanted := readIn(b)
	if e != wanted || told(m) != told(want) {
		t.Errorf("P6.1: Read(%.200x) of %d bytes: %v, %.400s; wanted %v, %.400s", b, len(b), e, told(m), wanted, told(want))
	}
	return m, e
}

// written: a name, or an end of one, and its place in a message.
type written struct {
	name  string
	place int
}

// letter: a message that is written as the chapter says, each end of a name
// held against all that were written ahead.
type letter struct {
	b     []byte
	ahead []written
}

func (l *letter) word(n int) { l.b = binary.BigEndian.AppendUint16(l.b, uint16(n)) }

// find: where a name was first written, below 16384; else -1.
func (l *letter) find(n api.Name) int {
	for _, w := range l.ahead {
		if w.name == string(flat(n)) && w.place < 16384 {
			return w.place
		}
	}
	return -1
}

func (l *letter) name(n api.Name) {
	labels, end := len(n), []byte{0}
	for i := range n {
		if place := l.find(n[i:]); place >= 0 {
			labels, end = i, []byte{byte(192 + place/256), byte(place % 256)}
			break
		}
	}
	for i := range labels {
		l.ahead = append(l.ahead, written{string(flat(n[i:])), len(l.b)})
		l.b = append(l.b, counted([]byte(n[i]))...)
	}
	l.b = append(l.b, end...)
}

func (l *letter) record(x api.Record) {
	l.name(x.Name)
	l.word(int(x.Type))
	l.word(int(x.Class))
	l.b = binary.BigEndian.AppendUint32(l.b, x.Ttl)
	l.word(len(x.Data))
	l.b = append(l.b, x.Data...)
}

// writtenIn: the bytes of m, whose parts must be right, however many they are.
func writtenIn(m api.Message) []byte {
	var l letter
	l.word(int(m.Id))
	word := m.Op*2048 + m.Code%16
	for bit, on := range map[int]bool{1 << 15: m.Reply, 1 << 10: m.Aa, 1 << 9: m.Tc, 1 << 8: m.Rd, 1 << 7: m.Ra} {
		if on {
			word += bit
		}
	}
	l.word(word)
	add := m.Add
	if m.Edns {
		ttl := uint32(m.Code/16) << 24
		if m.Do {
			ttl += 0x8000
		}
		add = append(slices.Clone(add), api.Record{Type: 41, Class: m.Size, Ttl: ttl})
	}
	for _, count := range []int{len(m.Questions), len(m.Answers), len(m.Auth), len(add)} {
		l.word(count)
	}
	for _, q := range m.Questions {
		l.name(q.Name)
		l.word(int(q.Type))
		l.word(int(q.Class))
	}
	for _, x := range slices.Concat(m.Answers, m.Auth, add) {
		l.record(x)
	}
	return l.b
}

// small: bytes with small letters.
func small(b []byte) []byte {
	out := bytes.Clone(b)
	for i, c := range b {
		if 'A' <= c && c <= 'Z' {
			out[i] = c + 32
		}
	}
	return out
}

// setOf: what records of one set have in common.
func setOf(x api.Record) string {
	kind := fmt.Sprint(small(flat(x.Name)), x.Type, x.Class, " ")
	if x.Type == 46 {
		kind += string(x.Data[:min(2, len(x.Data))])
	}
	return kind
}

// less: a section without its last set.
func less(l []api.Record) []api.Record {
	end := len(l) - 1
	for end > 0 && setOf(l[end-1]) == setOf(l[end]) {
		end--
	}
	return l[:end]
}

// fitIn: the bytes that the chapter asks of Fit(m, size), set by set; none, if
// nothing is left to leave out and they are too many.
func fitIn(m api.Message, size int) []byte {
	size = min(max(size, 512), 65535)
	for {
		b := writtenIn(m)
		if len(b) <= size {
			return b
		}
		if len(m.Add) > 0 {
			m.Add = less(m.Add)
			continue
		}
		m.Tc = true
		switch {
		case len(m.Auth) > 0:
			m.Auth = less(m.Auth)
		case len(m.Answers) > 0:
			m.Answers = less(m.Answers)
		case len(b) > 65535:
			return nil
		default:
			return writtenIn(m)
		}
	}
}
