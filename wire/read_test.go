package wire_test

import (
	"bytes"
	"strings"
	"testing"

	"signet/api"
	"signet/wire"
)

// head: a header of that Id 7 and those counts, and what is behind it.
func head(questions, answers, auth, add byte, rest ...string) []byte {
	b := []byte{0, 7, 0, 0, 0, questions, 0, answers, 0, auth, 0, add}
	return append(b, strings.Join(rest, "")...)
}

// taken: b must be a message: it.
func taken(t *testing.T, b []byte) api.Message {
	t.Helper()
	m, e := judged(t, b)
	if e != api.OK {
		t.Errorf("P6.1: Read(%.200x) of %d bytes: %v", b, len(b), e)
	}
	return m
}

// refused: b must not be a message, and nothing may stand beside the error.
func refused(t *testing.T, b []byte, want api.Errno) {
	t.Helper()
	m, e := judged(t, b)
	if e != want || told(m) != told(api.Message{}) {
		t.Errorf("P6.1: Read(%.200x) of %d bytes: %v, %s; wanted %v", b, len(b), e, told(m), want)
	}
}

// named: the names that b's questions must have.
func named(t *testing.T, b []byte, want ...api.Name) {
	t.Helper()
	m := taken(t, b)
	var got []api.Name
	for _, q := range m.Questions {
		got = append(got, q.Name)
	}
	if told(got) != told(want) {
		t.Errorf("P6.1: names of %x: %q, wanted %q", b, got, want)
	}
}

// TestErrNumbers (P6.1): the chapter's numbers.
func TestErrNumbers(t *testing.T) {
	if _, e := wire.Read(nil); e != 60 {
		t.Errorf("P6.1: no message: %d, wanted 60", e)
	}
	if _, e := wire.Read(make([]byte, 65536)); e != 61 {
		t.Errorf("P6.1: too long: %d, wanted 61", e)
	}
	if _, e := wire.Bytes(api.Message{Op: 16}); e != 60 {
		t.Errorf("P6.3: no message: %d, wanted 60", e)
	}
	if _, e := wire.Bytes(api.Message{Questions: make([]api.Question, 65535)}); e != 61 {
		t.Errorf("P6.3: too long: %d, wanted 61", e)
	}
}

// TestHeader (P6.1): the header's length, and each of its bits.
func TestHeader(t *testing.T) {
	for size := range 12 {
		refused(t, make([]byte, size), api.ErrWire)
	}
	refused(t, nil, api.ErrWire)
	refused(t, make([]byte, 13), api.ErrWire)
	if m := taken(t, make([]byte, 12)); told(m) != told(api.Message{}) {
		t.Errorf("P6.1: twelve noughts: %s", told(m))
	}
	rows := []struct {
		word uint16
		want api.Message
	}{
		{0x8000, api.Message{Reply: true}},
		{0x7800, api.Message{Op: 15}}, {0x4000, api.Message{Op: 8}}, {0x2000, api.Message{Op: 4}},
		{0x1000, api.Message{Op: 2}}, {0x0800, api.Message{Op: 1}},
		{0x0400, api.Message{Aa: true}}, {0x0200, api.Message{Tc: true}}, {0x0100, api.Message{Rd: true}},
		{0x0080, api.Message{Ra: true}}, {0x0070, api.Message{}},
		{0x0008, api.Message{Code: 8}}, {0x0004, api.Message{Code: 4}}, {0x0002, api.Message{Code: 2}},
		{0x0001, api.Message{Code: 1}}, {0x000f, api.Message{Code: 15}},
		{0xffff, api.Message{Reply: true, Op: 15, Aa: true, Tc: true, Rd: true, Ra: true, Code: 15}},
	}
	for _, x := range rows {
		x.want.Id = 0xfe01
		b := []byte{0xfe, 1, byte(x.word >> 8), byte(x.word), 0, 0, 0, 0, 0, 0, 0, 0}
		if m := taken(t, b); told(m) != told(x.want) {
			t.Errorf("P6.1: header of %04x: %+v, wanted %+v", x.word, m, x.want)
		}
	}
}

const (
	ask = "\x00\x00\x01\x00\x01"                                         // a question: the root, A, IN
	rec = "\x00\x00\x01\x00\x01\x00\x00\x00\x09\x00\x04\x01\x02\x03\x04" // a record: the same
)

// TestCounts (P6.1): as many questions and records as the counts say, in
// their sections; not one more or less.
func TestCounts(t *testing.T) {
	m := taken(t, head(2, 1, 2, 1, ask, "\x01q\x00\xfe\xdc\xba\x98", rec, "\x01u\x00\xff\xfe\xfd\xfc\x7f\xff\xff\xff\x00\x00", rec, "\x01d", rec))
	a := api.Record{Type: 1, Class: 1, Ttl: 9, Data: []byte{1, 2, 3, 4}}
	d := a
	d.Name = api.Name{"d"}
	want := api.Message{Id: 7, Questions: []api.Question{{Type: 1, Class: 1}, {Name: api.Name{"q"}, Type: 0xfedc, Class: 0xba98}}, Answers: []api.Record{a}, Auth: []api.Record{{Name: api.Name{"u"}, Type: 0xfffe, Class: 0xfdfc, Ttl: 0x7fffffff}, a}, Add: []api.Record{d}}
	if told(m) != told(want) {
		t.Errorf("P6.1: %s, wanted %s", told(m), told(want))
	}
	for i := range 4 {
		one := []string{ask, rec, rec, rec}[i]
		for count := range 4 {
			for there := range 4 {
				b := head(0, 0, 0, 0, strings.Repeat(one, there))
				b[5+2*i] = byte(count)
				if count == there {
					taken(t, b)
				} else {
					refused(t, b, api.ErrWire)
				}
			}
		}
		b := head(0, 0, 0, 0, strings.Repeat(one, 256))
		b[4+2*i] = 1
		taken(t, b)
		b[4+2*i], b[5+2*i] = 255, 255
		refused(t, b, api.ErrWire)
	}
}

// TestLongest (P6.1): 65535 bytes are read, 65536 are too many, whatever
// they are.
func TestLongest(t *testing.T) {
	data := strings.Repeat("d", 65535-12-11)
	b := head(0, 1, 0, 0, "\x00\x00\x01\x00\x02\x00\x00\x00\x09\xff\xe8", data)
	if m := taken(t, b); len(b) != 65535 || len(m.Answers) != 1 || string(m.Answers[0].Data) != data {
		t.Errorf("P6.1: %d bytes aren't read as they are", len(b))
	}
	b[22] = 0xe9
	refused(t, append(b, 'd'), api.ErrWireLong)
	refused(t, make([]byte, 65535), api.ErrWire)
	refused(t, make([]byte, 65536), api.ErrWireLong)
	refused(t, make([]byte, 1<<20), api.ErrWireLong)
}

// TestPointers (P6.1): where a name may point.
func TestPointers(t *testing.T) {
	const kind = "\x00\x01\x00\x01"
	a, ab := api.Name{"a"}, api.Name{"a", "b"}
	// Ends in a pointer; is one; points to one; to an end.
	named(t, head(2, 0, 0, 0, "\x01a\x00", kind, "\x01b\xc0\x0c", kind), a, api.Name{"b", "a"})
	named(t, head(2, 0, 0, 0, "\x01a\x00", kind, "\xc0\x0c", kind), a, a)
	named(t, head(3, 0, 0, 0, "\x01a\x00", kind, "\xc0\x0c", kind, "\xc0\x13", kind), a, a, a)
	named(t, head(3, 0, 0, 0, "\x01a\x00", kind, "\xc0\x0c", kind, "\x01c\xc0\x13", kind), a, a, api.Name{"c", "a"})
	named(t, head(2, 0, 0, 0, "\x01a\x01b\x00", kind, "\xc0\x0e", kind), ab, api.Name{"b"})
	named(t, head(2, 0, 0, 0, "\x01a\x01b\x00", kind, "\xc0\x10", kind), ab, api.Name{})
	named(t, head(3, 0, 0, 0, "\x01b\x00", kind, "\x01a\xc0\x0c", kind, "\x01x\xc0\x13", kind), api.Name{"b"}, ab, api.Name{"x", "a", "b"})
	// To what is no name where it stands: into a label, a type, the header.
	named(t, head(2, 0, 0, 0, "\x03\x01x\x00\x00", kind, "\xc0\x0d", kind), api.Name{"\x01x\x00"}, api.Name{"x"})
	named(t, head(2, 0, 0, 0, "\x01a\x00", kind, "\xc0\x0f", kind), a, api.Name{})
	named(t, head(1, 0, 0, 0, "\xc0\x0b", kind), api.Name{})
	named(t, head(1, 0, 0, 0, "\xc0\x00", kind), api.Name{})
	named(t, head(1, 0, 0, 0, "\x01a\xc0\x00", kind), a)
	named(t, head(1, 0, 0, 0, "\xc0\x05", "\x00\x01\x00\x01"), api.Name{"\x00"})
	// To itself: from its beginning, its middle; ahead; behind the end.
	for _, place := range []string{"\x0c", "\x0d", "\x0e", "\x0f", "\x11", "\x12", "\x14", "\xff"} {
		refused(t, head(1, 0, 0, 0, "\xc0"+place, kind), api.ErrWire)
		refused(t, head(1, 0, 0, 0, "\x01a\xc0"+place, kind), api.ErrWire)
		refused(t, head(2, 0, 0, 0, "\xc0"+place, kind, "\x01a\x00", kind), api.ErrWire)
	}
	for _, place := range []string{"\xc0\x13", "\xc0\x14", "\xc0\x15", "\xc0\x16", "\xc0\x18", "\xff\xff", "\xc1\x0c"} {
		refused(t, head(2, 0, 0, 0, "\x01a\x00", kind, "\x01b"+place, kind), api.ErrWire)
	}
	// A pointer without its second byte.
	refused(t, head(1, 0, 0, 0, "\xc0"), api.ErrWire)
	refused(t, head(1, 0, 0, 0, "\x01a\xc0"), api.ErrWire)
}

// TestRings (P6.1): the part that is pointed to must itself point ahead of
// where it begins, though it is ahead of the name.
func TestRings(t *testing.T) {
	const kind = "\x00\x01\x00\x01"
	// In a record's data of another class stands what may point anywhere.
	other := func(data string) string {
		return "\x00\x00\x01\x00\x03\x00\x00\x00\x00\x00" + string(rune(len(data))) + data
	}
	rows := []struct {
		data, name string
		want       bool
	}{
		{"\xc0\x17", "\xc0\x17", false},                 // to itself
		{"\xc0\x16", "\xc0\x17", false},                 // to its length, a label of 2 bytes, behind which the name points
		{"\xc0\x19\xc0\x17", "\xc0\x17", false},         // a ring of two
		{"\xc0\x19\xc0\x17", "\xc0\x19", false},         // the same
		{"\xc0\x19\x00\x00", "\xc0\x17", false},         // a part behind the one that points
		{"\x01a\xc0\x17", "\xc0\x17", false},            // a part's own beginning
		{"\x01a\xc0\x18", "\xc0\x17", false},            // within it
		{"\x01a\xc0\x19", "\xc0\x19", false},            // a pointer to itself
		{"\x00\x00\x01a\xc0\x17", "\xc0\x19", true},     // ahead of it
		{"\x00\x00\x01a\xc0\x17", "\xc0\x1a", false},    // 'a' is too long a label
		{"\x01a\x00\xc0\x17\xc0\x1a", "\xc0\x1c", true}, // pointers to pointers
		{"\x02a\x01b\xc0\x17", "\xc0\x19", false},       // labels that overlap: b, and then a\x01, b, without an end
		{"\x04a\x01b\x00\x00", "\xc0\x19", true},        // from within a label
	}
	for i, x := range rows {
		b := head(0, 1, 0, 1, other(x.data), x.name, kind, "\x00\x00\x00\x09\x00\x04\x01\x02\x03\x04")
		if _, e := judged(t, b); (e == api.OK) != x.want {
			t.Errorf("P6.1: %d: %x, %x: %v", i, x.data, x.name, e)
		}
	}
}

// TestLabels (P6.1): labels of 63 bytes and of none; other upper bits.
func TestLabels(t *testing.T) {
	const kind = "\x00\x01\x00\x01"
	named(t, head(1, 0, 0, 0, "\x3f", strings.Repeat("l", 63), "\x00", kind), api.Name{strings.Repeat("l", 63)})
	for first := 64; first < 192; first++ {
		refused(t, head(1, 0, 0, 0, string([]byte{byte(first)}), strings.Repeat("\x00", first), "\x00", kind), api.ErrWire)
		refused(t, head(1, 0, 0, 0, string([]byte{byte(first), 0}), kind), api.ErrWire)
		refused(t, head(1, 0, 0, 0, string([]byte{1, 'a', byte(first), 0}), kind), api.ErrWire)
	}
	// A label, and a name, that the message's end cuts off.
	refused(t, head(1, 0, 0, 0, "\x05abcd"), api.ErrWire)
	refused(t, head(1, 0, 0, 0, "\x05abcde"), api.ErrWire)
	refused(t, head(1, 0, 0, 0), api.ErrWire)
}

// TestNameSizes (P6.1): names of 255 bytes and of 256, in one piece and by
// way of a pointer.
func TestNameSizes(t *testing.T) {
	const kind = "\x00\x01\x00\x01"
	for size := 250; size < 260; size++ {
		n := sized(size)
		if len(flat(n)) != size {
			t.Fatalf("the test's name has %d bytes, not %d", len(flat(n)), size)
		}
		b := head(1, 0, 0, 0, string(flat(n)), kind)
		if size <= 255 {
			named(t, b, n)
		} else {
			refused(t, b, api.ErrWire)
		}
		for split := 1; split < len(n); split++ {
			end := n[split:]
			parts := flat(n[:split])
			b := head(2, 0, 0, 0, string(flat(end)), kind, string(parts[:len(parts)-1]), "\xc0\x0c", kind)
			if size <= 255 {
				named(t, b, end, n)
			} else {
				refused(t, b, api.ErrWire)
			}
		}
	}
	many := api.Name(strings.Split(strings.Repeat("a", 127), ""))
	named(t, head(1, 0, 0, 0, string(flat(many)), kind), many)
	refused(t, head(2, 0, 0, 0, string(flat(many)), kind, "\x01a\xc0\x0c", kind), api.ErrWire)
}

// TestManyPointers (P6.1): a row of pointers as long as a message is gone
// through by each of many names, and ends.
func TestManyPointers(t *testing.T) {
	const count = 8000
	b := append(head(0, 0, 0, 0), 0, 0, 1, 0, 3, 0, 0, 0, 0, 2*count>>8, 2*count&255, 0, 0)
	last := 23
	for range count - 1 {
		b = append(b, 0xc0|byte(last>>8), byte(last))
		last += 2
	}
	records := 1
	for len(b)+12 <= 65535 {
		b = append(b, 0xc0|byte(last>>8), byte(last), 0, 1, 0, 3, 0, 0, 0, 0, 0, 0)
		records++
	}
	b[6], b[7] = byte(records>>8), byte(records)
	m, e := wire.Read(b)
	if e != api.OK || len(m.Answers) != records || len(m.Answers[records-1].Name) != 0 {
		t.Errorf("P6.1: %d records behind %d pointers: %v", records, count, e)
	}
}

// record: the bytes of one, of a type and class, with data of that length.
func record(kind, class byte, size int, data string) string {
	return string([]byte{0, 0, kind, 0, class, 0, 0, 0, 9, byte(size >> 8), byte(size)}) + data
}

// TestCompressedData (P6.1): names in data of class IN of NS, CNAME, MX, SOA
// are told whole, and the data end where their length says.
func TestCompressedData(t *testing.T) {
	// At 12 is Www.x, at 16 x.
	const q = "\x03Www\x01x\x00\x00\x01\x00\x01"
	const five = "\x00\x00\x00\x01\x00\x00\x00\x02\x00\x00\x00\x03\x00\x00\x00\x04\xff\xff\xff\xff"
	rows := []struct {
		kind       byte
		data, want string
	}{
		{2, "\xc0\x0c", "\x03Www\x01x\x00"}, {5, "\xc0\x10", "\x01x\x00"},
		{2, "\x02Ns\xc0\x10", "\x02Ns\x01x\x00"}, {5, "\x00", "\x00"}, {2, "\x01y\x00", "\x01y\x00"},
		{15, "\xc0\x0c\xc0\x10", "\xc0\x0c\x01x\x00"}, {15, "\x00\x0a\x02mX\xc0\x0c", "\x00\x0a\x02mX\x03Www\x01x\x00"},
		{15, "\x00\x0a\x00", "\x00\x0a\x00"},
		{6, "\xc0\x0c\xc0\x10" + five, "\x03Www\x01x\x00\x01x\x00" + five},
		{6, "\x01m\xc0\x10\x01b\xc0\x0c" + five, "\x01m\x01x\x00\x01b\x03Www\x01x\x00" + five},
		{6, "\x00\x00" + five, "\x00\x00" + five},
		// The second name ends in the first one.
		{6, "\x01m\xc0\x10\x01b\xc0\x22" + five, "\x01m\x01x\x00\x01b\x01m\x01x\x00" + five},
	}
	for i, x := range rows {
		size := len(x.data)
		for _, section := range []int{1, 2, 3} {
			counts := []byte{1, 0, 0, 0}
			counts[section] = 1
			message := func(class byte, size int, data string) []byte {
				return head(counts[0], counts[1], counts[2], counts[3], q, record(x.kind, class, size, data))
			}
			m := taken(t, message(1, size, x.data))
			l := [][]api.Record{nil, m.Answers, m.Auth, m.Add}[section]
			if len(l) != 1 || string(l[0].Data) != x.want {
				t.Errorf("P6.1: %d: %x of type %d: %s, wanted %x", i, x.data, x.kind, told(l), x.want)
			}
			m = taken(t, message(254, size, x.data))
			l = [][]api.Record{nil, m.Answers, m.Auth, m.Add}[section]
			if len(l) != 1 || string(l[0].Data) != x.data {
				t.Errorf("P6.1: %d: %x of another class: %s", i, x.data, told(l))
			}
			refused(t, message(1, size-1, x.data), api.ErrWire)
			refused(t, message(1, size+1, x.data), api.ErrWire)
			refused(t, message(1, size-1, x.data[:size-1]), api.ErrWire)
			refused(t, message(1, size+1, x.data+"\x00"), api.ErrWire)
			refused(t, message(1, 0, ""), api.ErrWire)
			refused(t, message(1, 65535, x.data), api.ErrWire)
			taken(t, message(255, size+1, x.data+"\x00"))
			taken(t, message(254, 0, ""))
		}
	}
	// A length one too short, and the byte that it leaves is another record's.
	refused(t, head(0, 2, 0, 0, record(2, 1, 0, ""), record(1, 1, 4, "\x00\x00\x00\x00")), api.ErrWire)
	refused(t, head(0, 1, 0, 0, record(2, 1, 3, "\xc0\x0c\x00")), api.ErrWire)
	// A name in data points to its own place, and ahead.
	for _, place := range []string{"\xc0\x17", "\xc0\x18", "\xc0\x19"} {
		refused(t, head(0, 1, 0, 0, record(2, 1, 2, place)), api.ErrWire)
	}
	taken(t, head(0, 1, 0, 0, record(2, 1, 2, "\xc0\x15")))
	// Too long a name by way of a pointer.
	long := string(flat(sized(254)))
	for _, x := range []struct {
		data string
		ok   bool
	}{{"\xc0\x0c", true}, {"\x01a\xc0\x0c", false}, {"\x02aa\xc0\x0c", false}} {
		b := head(1, 1, 0, 0, long, "\x00\x01\x00\x01", record(5, 1, len(x.data), x.data))
		if _, e := judged(t, b); (e == api.OK) != x.ok {
			t.Errorf("P6.1: data of a long name: %v", e)
		}
	}
}

// TestData (P6.1): other data stand as they are, and must be rdata.Check's,
// if their class is IN.
func TestData(t *testing.T) {
	rows := []struct {
		kind byte
		data string
		ok   bool
	}{
		{1, "\x01\x02\x03\x04", true}, {1, "\x01\x02\x03", false}, {1, "", false}, {1, "\x01\x02\x03\x04\x05", false},
		{28, strings.Repeat("a", 16), true}, {28, "aaaa", false},
		{16, "\x01a", true}, {16, "\x00", true}, {16, "", false}, {16, "\x02a", false},
		{43, "\x00\x01\xfd\x02\x05", true}, {43, "\x00\x01\xfd\x02", false},
		{46, strings.Repeat("\x00", 18) + "\x01A\x00sig", true}, {46, strings.Repeat("\x00", 18) + "\xc0\x0csig", false},
		{48, "\x01\x00\x03\xfdkey", true}, {48, "\x01\x00\x03", false},
		{50, "\x01\x00\x00\x01\x00\x01n", true}, {50, "\x01\x00\x00\x01\x00\x00", false},
		{51, "\x01\x00\x00\x01\x00", true}, {51, "\x01\x00\x00\x01\x01", false},
		{12, "\xc0\x0c", true}, {99, "", true}, {99, "\xc0\xff", true}, {255, "any", true},
	}
	for i, x := range rows {
		for _, class := range []byte{1, 254, 255, 0, 3} {
			b := head(0, 0, 1, 0, record(x.kind, class, len(x.data), x.data))
			if class == 1 && !x.ok {
				refused(t, b, api.ErrWire)
				continue
			}
			if m := taken(t, b); len(m.Auth) != 1 || string(m.Auth[0].Data) != x.data || m.Auth[0].Class != uint16(class) {
				t.Errorf("P6.1: %d: %x of type %d and class %d: %s", i, x.data, x.kind, class, told(m.Auth))
			}
		}
	}
	for _, size := range []int{8191, 8192, 8193, 20000} {
		data := strings.Repeat("d", size)
		taken(t, head(0, 1, 0, 0, record(99, 3, size, data)))
		b := head(0, 1, 0, 0, record(99, 1, size, data))
		if size <= 8192 {
			taken(t, b)
		} else {
			refused(t, b, api.ErrWire)
		}
	}
}

// TestTtl (P6.1): one with its highest bit counts as 0.
func TestTtl(t *testing.T) {
	for _, x := range []struct {
		ttl  string
		want uint32
	}{{"\x00\x00\x00\x00", 0}, {"\x01\x02\x03\x04", 0x01020304}, {"\x7f\xff\xff\xff", 1<<31 - 1}, {"\x80\x00\x00\x00", 0}, {"\x80\x00\x00\x01", 0}, {"\xff\xff\xff\xff", 0}} {
		for _, class := range []string{"\x01", "\xfe"} {
			one := "\x00\x00\x01\x00" + class + x.ttl + "\x00\x04abcd"
			m := taken(t, head(0, 1, 1, 1, one, one, one))
			for _, l := range [][]api.Record{m.Answers, m.Auth, m.Add} {
				if len(l) != 1 || l[0].Ttl != x.want {
					t.Errorf("P6.1: a Ttl of %x: %s, wanted %x", x.ttl, told(l), x.want)
				}
			}
		}
	}
}

// opt: the bytes of one, behind its owner.
func opt(size, ttl, data string) string {
	return "\x00\x29" + size + ttl + "\x00" + string(rune(len(data))) + data
}

// TestOpt (P6.2): what an OPT says, and what of it says nothing.
func TestOpt(t *testing.T) {
	rows := []struct {
		b    []byte
		want api.Message
	}{
		{head(0, 0, 0, 1, "\x00", opt("\x00\x00", "\x00\x00\x00\x00", "")), api.Message{}},
		{head(0, 0, 0, 1, "\x00", opt("\x12\x34", "\x00\x00\x80\x00", "")), api.Message{Size: 0x1234, Do: true}},
		{head(0, 0, 0, 1, "\x00", opt("\x00\x01", "\x00\xff\x7f\xff", "")), api.Message{Size: 1}},
		{head(0, 0, 0, 1, "\x00", opt("\x00\x01", "\x01\xff\xff\xff", "data")), api.Message{Size: 1, Do: true, Code: 16}},
		{head(0, 0, 0, 1, "\x00", opt("\xff\xff", "\x80\x00\x00\x00", "\xc0\x00")), api.Message{Size: 65535, Code: 2048}},
		{head(0, 0, 0, 1, "\x00", opt("\x02\x00", "\xff\x00\x00\x00", "")), api.Message{Size: 512, Code: 4080}},
		{head(0, 0, 0, 1, "\xc0\x00", opt("\x02\x00", "\x00\x00\x00\x00", "")), api.Message{Size: 512}},
	}
	for i, x := range rows {
		x.want.Id, x.want.Edns = 7, true
		if m := taken(t, x.b); told(m) != told(x.want) {
			t.Errorf("P6.2: %d: %+v, wanted %+v", i, m, x.want)
		}
		x.b[3] |= 9
		x.want.Code += 9
		if m := taken(t, x.b); told(m) != told(x.want) {
			t.Errorf("P6.2: %d: %+v, wanted %+v", i, m, x.want)
		}
	}
	long := "\x00\x00\x29\x00\x01\x00\x00\x00\x00\x23\x28" + strings.Repeat("d", 9000)
	if m := taken(t, head(0, 0, 0, 1, long)); !m.Edns || m.Size != 1 {
		t.Errorf("P6.2: an OPT of 9000 bytes: %+v", m)
	}
	if m := taken(t, head(0, 0, 0, 0)); m.Edns || m.Size != 0 || m.Do {
		t.Errorf("P6.2: no OPT: %+v", m)
	}
}

// TestOptPlace (P6.2): ahead of records, among them, behind them; not in
// another section, not two, not of another name.
func TestOptPlace(t *testing.T) {
	one := "\x00" + opt("\x04\xd0", "\x00\x00\x80\x00", "")
	for _, rest := range [][]string{{one, rec, rec}, {rec, one, rec}, {rec, rec, one}} {
		m := taken(t, head(0, 0, 0, 3, rest...))
		if !m.Edns || m.Size != 1232 || !m.Do || len(m.Add) != 2 || m.Add[0].Type != 1 || m.Add[1].Type != 1 {
			t.Errorf("P6.2: %s", told(m))
		}
	}
	refused(t, head(0, 1, 0, 0, one), api.ErrWire)
	refused(t, head(0, 0, 1, 0, one), api.ErrWire)
	refused(t, head(0, 1, 0, 1, one, one), api.ErrWire)
	refused(t, head(0, 0, 0, 2, one, one), api.ErrWire)
	refused(t, head(0, 0, 0, 3, one, rec, one), api.ErrWire)
	other := "\x01a\x00" + opt("\x04\xd0", "\x00\x00\x80\x00", "")
	refused(t, head(0, 0, 0, 1, other), api.ErrWire)
	refused(t, head(0, 0, 0, 2, one, other), api.ErrWire)
	refused(t, head(0, 0, 0, 1, one[:len(one)-1]), api.ErrWire)
	refused(t, head(0, 0, 0, 1, "\x00", "\x00\x29\x02\x00\x00\x00\x00\x00\x00\x01"), api.ErrWire)
	// A question of that type is none.
	if m := taken(t, head(1, 0, 0, 0, "\x01a\x00\x00\x29\x02\x00")); m.Edns || len(m.Questions) != 1 {
		t.Errorf("P6.2: a question: %+v", m)
	}
}

// TestChanged (P6.1): messages with one byte changed, cut off, longer.
func TestChanged(t *testing.T) {
	const q = "\x03Www\x01x\x00\x00\x01\x00\x01"
	const five = "\x00\x00\x00\x01\x00\x00\x00\x02\x00\x00\x00\x03\x00\x00\x00\x04\xff\xff\xff\xff"
	for _, b := range [][]byte{
		head(1, 1, 1, 2, q, "\xc0\x0c", record(2, 1, 5, "\x02ns\xc0\x10")[1:], "\xc0\x10", record(6, 1, 24, "\xc0\x0c\xc0\x10"+five)[1:], rec, "\x00", opt("\x04\xd0", "\x01\x00\x80\x00", "d")),
		head(0, 3, 0, 0, record(15, 1, 5, "\x00\x0a\x01m\x00"), record(46, 254, 2, "\xc0\x0c"), record(16, 1, 4, "\x01a\x01b")),
	} {
		taken(t, b)
		for i := range b {
			refused(t, b[:i:i], api.ErrWire)
			for c := range 256 {
				changed := bytes.Clone(b)
				changed[i] = byte(c)
				judged(t, changed)
			}
		}
		for c := range 256 {
			refused(t, append(bytes.Clone(b), byte(c)), api.ErrWire)
		}
	}
}

// TestMadeUp (P6.1, P6.2): messages out of a row of numbers, with some bytes
// changed.
func TestMadeUp(t *testing.T) {
	r := &row{1}
	good := 0
	for range 20000 {
		b := writtenIn(r.message())
		if r.next(4) == 0 {
			b = append(head(byte(r.next(3)), byte(r.next(3)), 0, byte(r.next(2))), r.bytes(r.next(40))...)
		}
		for range r.next(3) {
			at := r.next(len(b))
			switch r.next(3) {
			case 0:
				b[at] = byte(r.next(256))
			case 1:
				b[at] = byte(r.next(4))
			default:
				b[at] = 0xc0
				if at+1 < len(b) {
					b[at+1] = byte(r.next(min(len(b), 256)))
				}
			}
		}
		if _, e := judged(t, b); e == api.OK {
			good++
		}
	}
	if good < 5000 || good > 19000 {
		t.Errorf("%d messages of 20000 can be read: the test is lopsided", good)
	}
}

// TestReadLeaves (P6.1): what is read is not changed, nor the room behind it.
func TestReadLeaves(t *testing.T) {
	r := &row{2}
	for range 300 {
		b := writtenIn(r.message())
		room := append(bytes.Clone(b), r.bytes(40)...)
		before := bytes.Clone(room)
		wire.Read(room[:len(b)])
		wire.Read(room[:r.next(len(b))])
		wire.Id(room[:len(b)])
		if !bytes.Equal(room, before) {
			t.Fatalf("P6.1: Read changed %x to %x", before, room)
		}
	}
}

// TestReadNew (P6.1): what is answered is new memory, in which no two lists
// share any.
func TestReadNew(t *testing.T) {
	r := &row{3}
	for range 300 {
		b := writtenIn(r.message())
		kept := bytes.Clone(b)
		m, _ := wire.Read(b)
		want := told(m)
		for i := range b {
			b[i] = 0xaa
		}
		if told(m) != want {
			t.Fatalf("P6.1: the answer hangs on the bytes that were read: %s, wanted %s", told(m), want)
		}
		again, _ := wire.Read(kept)
		alone(t, &m)
		if told(again) != want {
			t.Fatalf("P6.1: two answers share memory")
		}
	}
}

// alone: each list of m must be its own: what is laid in or behind one is not
// to be seen in another one.
func alone(t *testing.T, m *api.Message) {
	t.Helper()
	for i := range m.Questions {
		m.Questions[i].Name = append(m.Questions[i].Name, "behind")
		spoil(m.Questions[i].Name, "q")
	}
	sections := []*[]api.Record{&m.Answers, &m.Auth, &m.Add}
	var names []api.Name
	var data [][]byte
	for _, l := range sections {
		for i := range *l {
			names, data = append(names, (*l)[i].Name), append(data, (*l)[i].Data)
		}
		*l = append(*l, api.Record{Type: 7})
	}
	for i := range names {
		spoil(names[i], string(rune(i)))
		spoil(data[i], byte(i))
	}
	for i := range names {
		for _, label := range names[i] {
			if label != string(rune(i)) {
				t.Fatalf("P6.1: two names share memory")
			}
		}
		for _, c := range data[i] {
			if c != byte(i) {
				t.Fatalf("P6.1: two records' data share memory")
			}
		}
	}
	for _, l := range sections {
		if (*l)[len(*l)-1].Type != 7 {
			t.Fatalf("P6.1: two sections share memory")
		}
		spoil(*l, api.Record{Type: 8})
		for _, other := range sections {
			if other != l && (*other)[0].Type == 8 {
				t.Fatalf("P6.1: two sections share memory")
			}
		}
		spoil(*l, api.Record{Type: 7})
	}
}

// spoil fills a list, and the room behind it.
func spoil[T any](list []T, with T) {
	list = list[:cap(list)]
	for i := range list {
		list[i] = with
	}
}

// FuzzRead: any bytes are read as the chapter says, and what was read is
// written and read again as it was.
func FuzzRead(f *testing.F) {
	r := &row{4}
	for range 40 {
		f.Add(writtenIn(r.message()))
	}
	f.Add([]byte{})
	f.Fuzz(func(t *testing.T, b []byte) {
		m, e := judged(t, b)
		if e != api.OK {
			return
		}
		out, e := wire.Bytes(m)
		if e == api.ErrWireLong {
			return
		}
		if again, f := wire.Read(out); e != api.OK || f != api.OK || told(again) != told(m) {
			t.Errorf("P6.6: %x: %v, %v: %s, wanted %s", b, e, f, told(again), told(m))
		}
	})
}
