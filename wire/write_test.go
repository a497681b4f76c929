package wire_test

import (
	"bytes"
	"slices"
	"strings"
	"testing"

	"signet/api"
	"signet/wire"
)

// sent: m must be written, as the chapter says and, if want isn't empty, as
// want; what was written.
func sent(t *testing.T, m api.Message, want string) []byte {
	t.Helper()
	b, e := wire.Bytes(m)
	if model := writtenIn(m); e != api.OK || !bytes.Equal(b, model) || want != "" && string(b) != want {
		t.Errorf("P6.3: Bytes(%.300s): %v, %.300x, wanted %.300x (%.300x)", told(m), e, b, want, model)
	}
	return b
}

// notSent: m must not be written, and nothing stand beside the error.
func notSent(t *testing.T, m api.Message, want api.Errno) {
	t.Helper()
	if b, e := wire.Bytes(m); e != want || len(b) != 0 {
		t.Errorf("P6.3: Bytes(%.300s): %v and %d bytes, wanted %v", told(m), e, len(b), want)
	}
}

// back: m must be read as it was written.
func back(t *testing.T, m api.Message) {
	t.Helper()
	got, e := wire.Read(sent(t, m, ""))
	if e != api.OK || told(got) != told(m) {
		t.Errorf("P6.6: %v, %.600s, wanted %.600s", e, told(got), told(m))
	}
}

// asked: a message of questions of those names, type 1, class 2.
func asked(names ...api.Name) (m api.Message) {
	for _, n := range names {
		m.Questions = append(m.Questions, api.Question{Name: n, Type: 1, Class: 2})
	}
	return m
}

// TestBytesHeader (P6.3): each part of the header by itself.
func TestBytesHeader(t *testing.T) {
	const counts = "\x00\x00\x00\x00\x00\x00\x00\x00"
	rows := []struct {
		m    api.Message
		want string
	}{
		{api.Message{}, "\x00\x00\x00\x00"}, {api.Message{Id: 0x1234}, "\x12\x34\x00\x00"},
		{api.Message{Reply: true}, "\x00\x00\x80\x00"}, {api.Message{Op: 1}, "\x00\x00\x08\x00"},
		{api.Message{Op: 15}, "\x00\x00\x78\x00"}, {api.Message{Aa: true}, "\x00\x00\x04\x00"},
		{api.Message{Tc: true}, "\x00\x00\x02\x00"}, {api.Message{Rd: true}, "\x00\x00\x01\x00"},
		{api.Message{Ra: true}, "\x00\x00\x00\x80"}, {api.Message{Code: 15}, "\x00\x00\x00\x0f"},
		{api.Message{Id: 65535, Reply: true, Op: 15, Aa: true, Tc: true, Rd: true, Ra: true, Code: 15}, "\xff\xff\xff\x8f"},
		// Without Edns its parts say nothing.
		{api.Message{Size: 1232, Do: true}, "\x00\x00\x00\x00"},
	}
	for _, x := range rows {
		sent(t, x.m, x.want+counts)
	}
}

// TestBytesForm (P6.3): questions, records, an OPT, as they stand.
func TestBytesForm(t *testing.T) {
	m := api.Message{Id: 1, Questions: []api.Question{{Name: api.Name{"q"}, Type: 0xfedc, Class: 0xba98}}, Answers: []api.Record{{Type: 0x0102, Class: 0x0304, Ttl: 0x85060708, Data: []byte("data")}}, Auth: []api.Record{{Name: api.Name{"u"}}, {Type: 1, Class: 1, Data: []byte("three")}}, Add: []api.Record{{Name: api.Name{"d"}, Type: 41, Ttl: 1 << 31}}}
	want := "\x00\x01\x00\x00\x00\x01\x00\x01\x00\x02\x00\x01" + "\x01q\x00\xfe\xdc\xba\x98" +
		"\x00\x01\x02\x03\x04\x85\x06\x07\x08\x00\x04data" +
		"\x01u\x00\x00\x00\x00\x00\x00\x00\x00\x00\x00\x00" + "\x00\x00\x01\x00\x01\x00\x00\x00\x00\x00\x05three" +
		"\x01d\x00\x00\x29\x00\x00\x80\x00\x00\x00\x00\x00"
	sent(t, m, want)
	m.Edns, m.Size, m.Do, m.Code = true, 0xabcd, true, 0x123
	sent(t, m, want[:3]+"\x03"+want[4:11]+"\x02"+want[12:]+"\x00\x00\x29\xab\xcd\x12\x00\x80\x00\x00\x00")
	m = api.Message{Edns: true}
	sent(t, m, "\x00\x00\x00\x00\x00\x00\x00\x00\x00\x00\x00\x01\x00\x00\x29\x00\x00\x00\x00\x00\x00\x00\x00")
	m.Code = 4095
	sent(t, m, "\x00\x00\x00\x0f\x00\x00\x00\x00\x00\x00\x00\x01\x00\x00\x29\x00\x00\xff\x00\x00\x00\x00\x00")
}

// TestCompressed (P6.3): names as pointers.
func TestCompressed(t *testing.T) {
	const kind = "\x00\x01\x00\x02"
	rows := []struct {
		names []api.Name
		want  string
	}{
		{[]api.Name{{}}, "\x00" + kind},
		{[]api.Name{{}, {}}, "\x00" + kind + "\x00" + kind},
		{[]api.Name{{"a"}, {"a"}}, "\x01a\x00" + kind + "\xc0\x0c" + kind},
		{[]api.Name{{"a", "a"}, {"a"}}, "\x01a\x01a\x00" + kind + "\xc0\x0e" + kind},
		{[]api.Name{{"a"}, {"b", "a"}, {"b", "a"}, {"c", "b", "a"}}, "\x01a\x00" + kind + "\x01b\xc0\x0c" + kind + "\xc0\x13" + kind + "\x01c\xc0\x13" + kind},
		// The longest end, where it was first written.
		{[]api.Name{{"a", "b", "c"}, {"x", "c"}, {"y", "b", "c"}, {"b", "c"}}, "\x01a\x01b\x01c\x00" + kind + "\x01x\xc0\x10" + kind + "\x01y\xc0\x0e" + kind + "\xc0\x0e" + kind},
		// An end, not a beginning or a middle.
		{[]api.Name{{"a", "b", "c"}, {"a", "b"}, {"b"}}, "\x01a\x01b\x01c\x00" + kind + "\x01a\x01b\x00" + kind + "\xc0\x19" + kind},
		// Byte by byte: capitals are others.
		{[]api.Name{{"a", "Zone"}, {"a", "zone"}, {"A", "Zone"}, {"a", "zone"}}, "\x01a\x04Zone\x00" + kind + "\x01a\x04zone\x00" + kind + "\x01A\xc0\x0e" + kind + "\xc0\x18" + kind},
		// Labels count, not the bytes that they are written in.
		{[]api.Name{{"a\x01b"}, {"b"}, {"a", "b"}}, "\x03a\x01b\x00" + kind + "\x01b\x00" + kind + "\x01a\xc0\x15" + kind},
	}
	for _, x := range rows {
		m := asked(x.names...)
		m.Id = 7
		sent(t, m, string(head(byte(len(x.names)), 0, 0, 0, x.want)))
		back(t, m)
	}
	// Owners as questions; names in data are neither compressed nor pointed to.
	n := api.Name{"ns", "x"}
	m := asked(api.Name{"x"})
	m.Answers = []api.Record{{Name: api.Name{"x"}, Type: 2, Class: 1, Data: flat(n)}, {Name: n, Type: 2, Class: 1, Data: flat(n)}}
	m.Auth = []api.Record{{Name: n, Type: 15, Class: 1, Data: append([]byte{0, 1}, flat(n)...)}}
	m.Add = []api.Record{{Name: api.Name{"y", "ns", "x"}, Type: 1, Class: 1, Data: []byte("abcd")}}
	want := "\x00\x00\x00\x00\x00\x01\x00\x02\x00\x01\x00\x01" + "\x01x\x00" + kind +
		"\xc0\x0c\x00\x02\x00\x01\x00\x00\x00\x00\x00\x06\x02ns\x01x\x00" +
		"\x02ns\xc0\x0c\x00\x02\x00\x01\x00\x00\x00\x00\x00\x06\x02ns\x01x\x00" +
		"\xc0\x25\x00\x0f\x00\x01\x00\x00\x00\x00\x00\x08\x00\x01\x02ns\x01x\x00" +
		"\x01y\xc0\x25\x00\x01\x00\x01\x00\x00\x00\x00\x00\x04abcd"
	sent(t, m, want)
	back(t, m)
}

// TestPlaces (P6.3): a pointer tells a place below 16384, and no other.
func TestPlaces(t *testing.T) {
	for place := 16376; place < 16392; place++ {
		// A record's data fill the message up to that place, where a.bb begins.
		m := api.Message{Answers: []api.Record{{Type: 99, Class: 3, Data: make([]byte, place-12-11)}}}
		n := api.Name{"a", "bb"}
		x := api.Record{Name: n, Type: 99, Class: 3}
		m.Answers = append(m.Answers, x, x, x)
		m.Auth = []api.Record{{Name: n[1:], Type: 99, Class: 3}}
		b := sent(t, m, "")
		first, second := string(flat(n)), string(flat(n))
		end := string(flat(n[1:]))
		if place < 16384 {
			second = string([]byte{0xc0 | byte(place>>8), byte(place)})
		} else if place == 16382 {
			second = "\x01a\xff\xff"
		}
		if place+2 < 16384 {
			end = string([]byte{0xc0 | byte((place+2)>>8), byte(place + 2)})
		}
		for _, want := range []struct {
			at   int
			name string
		}{{place, first}, {place + 6 + 10, second}, {place + 6 + 10 + len(second) + 10, second}, {place + 6 + 10 + 2*(len(second)+10), end}} {
			if got := string(b[want.at : want.at+len(want.name)]); got != want.name {
				t.Errorf("P6.3: a name first written at %d: %x, wanted %x", place, got, want.name)
			}
		}
		back(t, m)
	}
	// Written above first, then again above: never a pointer.
	m := api.Message{Answers: []api.Record{{Type: 99, Class: 3, Data: make([]byte, 20000)}, {Name: api.Name{"n"}, Class: 3}, {Name: api.Name{"n"}, Class: 3}, {Name: api.Name{"m", "n"}, Class: 3}}}
	if b := sent(t, m, ""); len(b) != 12+11+20000+13+13+15 {
		t.Errorf("P6.3: %d bytes", len(b))
	}
	back(t, m)
}

// TestNotSent (P6.3): what can't be written, and its neighbours that can.
func TestNotSent(t *testing.T) {
	for _, x := range []struct {
		op, code int
		edns, ok bool
	}{
		{0, 0, false, true}, {15, 0, false, true}, {16, 0, false, false}, {-1, 0, false, false}, {1 << 40, 0, false, false},
		{16, 0, true, false}, {-1, 0, true, false}, {32, 0, false, false},
		{0, 15, false, true}, {0, 16, false, false}, {0, -1, false, false}, {0, 4095, false, false}, {0, 4096, false, false},
		{0, 15, true, true}, {0, 16, true, true}, {0, 4095, true, true}, {0, 4096, true, false}, {0, -1, true, false}, {0, 1 << 40, true, false},
	} {
		m := api.Message{Op: x.op, Code: x.code, Edns: x.edns}
		if x.ok {
			back(t, m)
		} else {
			notSent(t, m, api.ErrWire)
			notFit(t, m, 512, api.ErrWire)
		}
	}
	for _, x := range []struct {
		n  api.Name
		ok bool
	}{
		{api.Name{""}, false}, {api.Name{"a", ""}, false}, {api.Name{"", "a"}, false}, {api.Name{strings.Repeat("x", 63)}, true},
		{api.Name{strings.Repeat("x", 64)}, false}, {api.Name{strings.Repeat("x", 257)}, false}, {sized(255), true}, {sized(256), false}, {sized(1000), false},
	} {
		for i := range 4 {
			var m api.Message
			one := []api.Record{{Type: 1, Class: 1, Data: []byte("abcd")}, {Name: x.n, Class: 3}}
			switch i {
			case 0:
				m = asked(api.Name{"a"}, x.n)
			case 1:
				m.Answers = one
			case 2:
				m.Auth = one
			default:
				m.Add = one
			}
			if x.ok {
				back(t, m)
			} else {
				notSent(t, m, api.ErrWire)
				notFit(t, m, 512, api.ErrWire)
			}
		}
	}
}

// section: a message whose i-th section (0: questions) has so many that are
// alike, and short.
func section(i, count int) (m api.Message) {
	if i == 0 {
		m.Questions = make([]api.Question, count)
		return m
	}
	*[]*[]api.Record{&m.Answers, &m.Auth, &m.Add}[i-1] = make([]api.Record, count)
	return m
}

// TestTooMany (P6.3): 65535 questions or records are too long, 65536 can't be
// told at all.
func TestTooMany(t *testing.T) {
	for i := range 4 {
		notSent(t, section(i, 65535), api.ErrWireLong)
		notSent(t, section(i, 65536), api.ErrWire)
		notFit(t, section(i, 65536), 65535, api.ErrWire)
		most := (65535 - 12) / []int{5, 11, 11, 11}[i]
		sent(t, section(i, most), "")
		notSent(t, section(i, most+1), api.ErrWireLong)
	}
	m := section(3, 65535)
	m.Edns = true
	notSent(t, m, api.ErrWireLong)
}

// TestTooLong (P6.3): 65535 bytes are written, 65536 are too many; data of
// 65536 bytes can't be told at all.
func TestTooLong(t *testing.T) {
	for _, edns := range []bool{false, true} {
		room := 65535 - 12 - 11
		if edns {
			room -= 11
		}
		for i := range 3 {
			with := func(size int) api.Message {
				m := api.Message{Edns: edns}
				*[]*[]api.Record{&m.Answers, &m.Auth, &m.Add}[i] = []api.Record{{Type: 99, Class: 3, Data: make([]byte, size)}}
				return m
			}
			if b := sent(t, with(room), ""); len(b) != 65535 {
				t.Errorf("P6.3: %d bytes", len(b))
			}
			back(t, with(room))
			notSent(t, with(room+1), api.ErrWireLong)
			notSent(t, with(room+2), api.ErrWireLong)
			notSent(t, with(65535), api.ErrWireLong)
			notSent(t, with(65536), api.ErrWire)
			notFit(t, with(65536), 65535, api.ErrWire)
		}
	}
	// What can't be written has no length: ErrWire, though it is too long too.
	m := section(1, 65535)
	m.Add = []api.Record{{Name: api.Name{""}}}
	notSent(t, m, api.ErrWire)
	m = section(0, 65535)
	m.Op = 16
	notSent(t, m, api.ErrWire)
	m = section(1, 10000)
	m.Answers = append(m.Answers, api.Record{Data: make([]byte, 65536)})
	notSent(t, m, api.ErrWire)
}

// TestBack (P6.6): made-up messages, and one of each thing.
func TestBack(t *testing.T) {
	back(t, api.Message{})
	r := &row{5}
	for range 5000 {
		back(t, r.message())
	}
	var names []api.Name
	for range 6000 {
		names = append(names, r.name())
	}
	back(t, asked(names...))
}

// TestFirstBits (P6.6): each bit of each number goes there and back.
func TestFirstBits(t *testing.T) {
	for bit := range 32 {
		m := api.Message{Id: uint16(1 << bit), Edns: true, Size: uint16(1 << bit), Op: 1 << (bit % 4), Code: 1 << (bit % 12)}
		m.Questions = []api.Question{{Type: uint16(1 << bit), Class: uint16(1 << (31 - bit))}}
		m.Answers = []api.Record{{Type: 99, Class: uint16(2 << bit), Ttl: uint32(1<<bit) &^ (1 << 31)}, {Type: 0x100 << bit, Class: 3}}
		back(t, m)
	}
}

// copied: m in memory of its own.
func copied(m api.Message) api.Message {
	m.Questions = slices.Clone(m.Questions)
	for i := range m.Questions {
		m.Questions[i].Name = slices.Clone(m.Questions[i].Name)
	}
	for _, l := range []*[]api.Record{&m.Answers, &m.Auth, &m.Add} {
		*l = slices.Clone(*l)
		for i := range *l {
			(*l)[i].Name, (*l)[i].Data = slices.Clone((*l)[i].Name), bytes.Clone((*l)[i].Data)
		}
	}
	return m
}

// roomy: the list with room behind it, in which something stands.
func roomy[T any](l []T, with T) []T {
	return append(slices.Clip(l), with, with, with)[:len(l)]
}

// TestWriteLeaves (P6.3, P6.4): what is written is not changed, nor the room
// behind it; what is answered is new.
func TestWriteLeaves(t *testing.T) {
	r := &row{6}
	behind := api.Record{Name: api.Name{"behind"}, Type: 99}
	for range 300 {
		m := copied(r.message())
		for i, q := range m.Questions {
			m.Questions[i].Name = roomy(q.Name, "behind")
		}
		for _, l := range []*[]api.Record{&m.Answers, &m.Auth, &m.Add} {
			for i, x := range *l {
				(*l)[i].Name, (*l)[i].Data = roomy(x.Name, "behind"), roomy(x.Data, 'b')
			}
			*l = roomy(*l, behind)
		}
		all := func() string {
			var out []string
			for _, l := range [][]api.Record{m.Answers, m.Auth, m.Add} {
				for _, x := range l[:len(l)+1] {
					out = append(out, told(x), told(x.Name[:min(len(x.Name)+1, cap(x.Name))]), told(x.Data[:min(len(x.Data)+1, cap(x.Data))]))
				}
			}
			for _, q := range m.Questions {
				out = append(out, told(q), told(q.Name[:len(q.Name)+1]))
			}
			return told(out)
		}
		before := all()
		b, _ := wire.Bytes(m)
		short, _ := wire.Fit(m, 512)
		if all() != before {
			t.Fatalf("P6.3: what was handed in was changed")
		}
		kept, keptShort := bytes.Clone(b), bytes.Clone(short)
		spoil(b, 0xaa)
		if !bytes.Equal(short, keptShort) || all() != before {
			t.Fatalf("P6.3: answers share memory")
		}
		if again, _ := wire.Bytes(m); !bytes.Equal(again, kept) {
			t.Fatalf("P6.3: the same message again is written otherwise")
		}
	}
}
