package wire_test

import (
	"bytes"
	"testing"

	"signet/api"
	"signet/wire"
)

// fits: Fit(m, size) must be as the chapter says; what of it is read.
func fits(t *testing.T, m api.Message, size int) api.Message {
	t.Helper()
	b, e := wire.Fit(m, size)
	if want := fitIn(m, size); e != api.OK || !bytes.Equal(b, want) {
		t.Fatalf("P6.4: Fit(%.300s, %d): %v, %d bytes %.200x, wanted %d bytes %.200x", told(m), size, e, len(b), b, len(want), want)
	}
	got, e := wire.Read(b)
	if e != api.OK {
		t.Fatalf("P6.4: what Fit answers can't be read: %v", e)
	}
	return got
}

// notFit: Fit must answer an error, and nothing beside it.
func notFit(t *testing.T, m api.Message, size int, want api.Errno) {
	t.Helper()
	if b, e := wire.Fit(m, size); e != want || len(b) != 0 {
		t.Errorf("P6.4: Fit(%.300s, %d): %v and %d bytes, wanted %v", told(m), size, e, len(b), want)
	}
}

// kept: how many records of each section are left, and whether Tc is set.
type kept struct {
	answers, auth, add int
	tc                 bool
}

func left(m api.Message) kept { return kept{len(m.Answers), len(m.Auth), len(m.Add), m.Tc} }

// block: a record that is written in 100 bytes, of class 3; its owner has one
// letter that wasn't written ahead as this one.
func block(owner string, kind uint16, first byte) api.Record {
	size := 100 - 10 - len(flat(api.Name{owner}))
	x := api.Record{Name: api.Name{owner}, Type: kind, Class: 3, Data: make([]byte, size)}
	x.Data[1] = first
	return x
}

// blocks: some of owners unlike each other.
func blocks(owners string) (l []api.Record) {
	for _, c := range owners {
		l = append(l, block(string(c), 99, 0))
	}
	return l
}

// TestFitSizes (P6.4): Bytes, where there is room; a size below 512 counts as
// 512.
func TestFitSizes(t *testing.T) {
	m := api.Message{Answers: blocks("ab"), Auth: blocks("cd"), Add: blocks("e")}
	whole, _ := wire.Bytes(m)
	if len(whole) != 512 {
		t.Fatalf("the test's message has %d bytes", len(whole))
	}
	for _, size := range []int{-1 << 63, -1, 0, 1, 511, 512, 513, 65535, 65536, 1<<63 - 1} {
		if got := fits(t, m, size); left(got) != (kept{2, 2, 1, false}) {
			t.Errorf("P6.4: %d: %+v", size, left(got))
		}
	}
	m.Add[0].Data = append(m.Add[0].Data, 0)
	for _, size := range []int{-1 << 63, -1, 0, 1, 511, 512} {
		if got := fits(t, m, size); left(got) != (kept{2, 2, 0, false}) {
			t.Errorf("P6.4: %d: %+v", size, left(got))
		}
	}
	if got := fits(t, m, 513); left(got) != (kept{2, 2, 1, false}) {
		t.Errorf("P6.4: 513: %+v", left(got))
	}
}

// TestFitOrder (P6.4): Add's records go first, then Auth's, then Answers',
// the last ones first; Tc says that one of the latter two went.
func TestFitOrder(t *testing.T) {
	m := api.Message{Answers: blocks("abc"), Auth: blocks("def"), Add: blocks("ghi")}
	rows := []struct {
		size int
		want kept
	}{
		{912, kept{3, 3, 3, false}}, {911, kept{3, 3, 2, false}}, {812, kept{3, 3, 2, false}}, {811, kept{3, 3, 1, false}},
		{711, kept{3, 3, 0, false}}, {612, kept{3, 3, 0, false}}, {611, kept{3, 2, 0, true}}, {512, kept{3, 2, 0, true}},
	}
	for _, x := range rows {
		if got := fits(t, m, x.size); left(got) != x.want {
			t.Errorf("P6.4: %d: %+v, wanted %+v", x.size, left(got), x.want)
		}
	}
	m = api.Message{Answers: blocks("abcdef"), Auth: blocks("gh"), Add: blocks("ij"), Edns: true}
	for _, x := range []struct {
		size int
		want kept
	}{
		{1023, kept{6, 2, 2, false}}, {1022, kept{6, 2, 1, false}}, {823, kept{6, 2, 0, false}}, {822, kept{6, 1, 0, true}}, {722, kept{6, 0, 0, true}},
		{623, kept{6, 0, 0, true}}, {622, kept{5, 0, 0, true}}, {523, kept{5, 0, 0, true}}, {522, kept{4, 0, 0, true}}, {0, kept{4, 0, 0, true}},
	} {
		got := fits(t, m, x.size)
		if left(got) != x.want || !got.Edns {
			t.Errorf("P6.4: %d: %+v, wanted %+v with Edns", x.size, left(got), x.want)
		}
	}
	// Tc that is set already stays.
	m.Tc = true
	if got := fits(t, m, 5000); left(got) != (kept{6, 2, 2, true}) {
		t.Errorf("P6.4: %+v", left(got))
	}
	if got := fits(t, m, 1022); left(got) != (kept{6, 2, 1, true}) {
		t.Errorf("P6.4: %+v", left(got))
	}
}

// TestFitSets (P6.4): sets go whole, in each section; what makes one.
func TestFitSets(t *testing.T) {
	a, b := block("a", 99, 0), block("b", 99, 0)
	capital, type98, class4 := block("A", 99, 0), block("a", 98, 0), block("a", 99, 0)
	class4.Class = 4
	sig1, sig2, sig257 := block("a", 46, 1), block("a", 46, 2), block("a", 46, 1)
	sig257.Data[0] = 1
	later := block("a", 46, 1)
	later.Data[2] = 7
	long, ttl := block("a", 99, 0), block("a", 99, 0)
	long.Data = append(long.Data, 1, 2, 3)
	ttl.Ttl = 5
	in := block("a", 46, 1)
	in.Class = 1
	none, nought := block("a", 46, 0), block("a", 46, 0)
	none.Data, nought.Data = nil, nought.Data[:1]
	rows := []struct {
		l    []api.Record
		keep int // of those when the last one has no room
	}{
		{[]api.Record{b, a}, 1}, {[]api.Record{a, a}, 0}, {[]api.Record{b, a, a}, 1}, {[]api.Record{b, b, a, a}, 2},
		{[]api.Record{b, a, a, a}, 1}, {[]api.Record{a, b, a}, 2}, {[]api.Record{a, a, b}, 2},
		{[]api.Record{b, a, capital}, 1}, {[]api.Record{b, capital, a}, 1},
		{[]api.Record{a, type98}, 1}, {[]api.Record{a, class4}, 1}, {[]api.Record{b, a, long}, 1}, {[]api.Record{b, a, ttl}, 1},
		{[]api.Record{sig1, sig2}, 1}, {[]api.Record{sig1, sig1}, 0}, {[]api.Record{sig2, sig1, later}, 1}, {[]api.Record{sig1, sig257}, 1},
		{[]api.Record{sig1, sig2, sig1}, 2}, {[]api.Record{a, sig1}, 1}, {[]api.Record{sig1, in}, 1},
		{[]api.Record{b, sig1, none}, 2}, {[]api.Record{b, none, none}, 1}, {[]api.Record{b, sig1, nought}, 2},
		// Signatures over unlike types behind one another.
		{[]api.Record{sig1, sig1, sig2, sig2}, 2}, {[]api.Record{b, sig2, sig1, sig1}, 2},
	}
	for i, x := range rows {
		for where := range 3 {
			// Questions take the room that there always is.
			m := asked(make([]api.Name, 120)...)
			*[]*[]api.Record{&m.Answers, &m.Auth, &m.Add}[where] = x.l
			whole, e := wire.Bytes(m)
			if e != api.OK || len(whole) < 600 {
				t.Fatalf("the test's message: %d bytes, %v", len(whole), e)
			}
			if b, _ := wire.Fit(m, len(whole)); !bytes.Equal(b, whole) {
				t.Errorf("P6.4: %d: a message that fits is made shorter", i)
			}
			b, e := wire.Fit(m, len(whole)-1)
			want := m
			*[]*[]api.Record{&want.Answers, &want.Auth, &want.Add}[where] = x.l[:x.keep]
			want.Tc = where < 2
			if e != api.OK || !bytes.Equal(b, writtenIn(want)) || !bytes.Equal(b, fitIn(m, len(whole)-1)) {
				t.Errorf("P6.4: %d, section %d: %v, %d bytes, wanted %d", i, where, e, len(b), len(writtenIn(want)))
			}
		}
	}
}

// TestFitSections (P6.4): records of two sections are no set, though alike.
func TestFitSections(t *testing.T) {
	a := block("a", 99, 0)
	m := asked(make([]api.Name, 120)...)
	m.Answers, m.Auth, m.Add = []api.Record{a}, []api.Record{a, a}, []api.Record{a}
	whole, _ := wire.Bytes(m)
	size := len(whole) - 1
	for _, want := range []kept{{1, 2, 0, false}, {1, 0, 0, true}, {0, 0, 0, true}} {
		b, e := wire.Fit(m, size)
		model := m
		model.Answers, model.Auth, model.Add, model.Tc = m.Answers[:want.answers], m.Auth[:want.auth], m.Add[:want.add], want.tc
		if e != api.OK || !bytes.Equal(b, writtenIn(model)) {
			t.Errorf("P6.4: %d: %v, %d bytes, wanted %+v", size, e, len(b), want)
		}
		size = len(b) - 1
	}
}

// TestFitNothingLeft (P6.4): Bytes with Tc, however long, where nothing is
// left to leave out.
func TestFitNothingLeft(t *testing.T) {
	m := asked(make([]api.Name, 101)...)
	for _, edns := range []bool{false, true} {
		m.Edns = edns
		for _, add := range [][]api.Record{nil, blocks("ab")} {
			m.Answers, m.Auth, m.Add = nil, nil, add
			got := fits(t, m, 512)
			if left(got) != (kept{0, 0, 0, true}) || len(got.Questions) != 101 || got.Edns != edns {
				t.Errorf("P6.4: %+v of %d questions", left(got), len(got.Questions))
			}
			m.Answers, m.Auth = blocks("cd"), blocks("ef")
			if got := fits(t, m, 100); left(got) != (kept{0, 0, 0, true}) || len(got.Questions) != 101 {
				t.Errorf("P6.4: %+v of %d questions", left(got), len(got.Questions))
			}
		}
	}
	// 100 questions are 512 bytes: nothing is wrong with them.
	m = asked(make([]api.Name, 100)...)
	if got := fits(t, m, 512); got.Tc {
		t.Errorf("P6.4: Tc where all has room")
	}
	m.Add = blocks("a")
	if got := fits(t, m, 512); left(got) != (kept{0, 0, 0, false}) {
		t.Errorf("P6.4: %+v", left(got))
	}
	m.Edns = true
	if got := fits(t, m, 512); left(got) != (kept{0, 0, 0, true}) {
		t.Errorf("P6.4: %+v", left(got))
	}
	notFit(t, section(0, 65535), 65535, api.ErrWireLong)
	notFit(t, section(0, 65535), 1<<40, api.ErrWireLong)
}

// TestFitLong (P6.4): what is longer than MaxMessage is made shorter, too.
func TestFitLong(t *testing.T) {
	big := func(owner string) api.Record {
		return api.Record{Name: api.Name{owner}, Type: 99, Class: 3, Data: make([]byte, 30000)}
	}
	m := api.Message{Answers: []api.Record{big("a"), big("b")}, Auth: []api.Record{big("c")}, Add: []api.Record{big("d"), big("e")}}
	for _, x := range []struct {
		size int
		want kept
	}{{1 << 40, kept{2, 0, 0, true}}, {65536, kept{2, 0, 0, true}}, {65535, kept{2, 0, 0, true}}, {60038, kept{2, 0, 0, true}}, {60037, kept{1, 0, 0, true}}, {512, kept{0, 0, 0, true}}} {
		if got := fits(t, m, x.size); left(got) != x.want {
			t.Errorf("P6.4: %d: %+v, wanted %+v", x.size, left(got), x.want)
		}
	}
	m = api.Message{Add: m.Add, Auth: m.Auth}
	m.Add = append(m.Add, big("f"))
	if got := fits(t, m, 1<<40); left(got) != (kept{0, 1, 1, false}) {
		t.Errorf("P6.4: %+v", left(got))
	}
	// MaxMessage, and one byte above it.
	for _, edns := range []bool{false, true} {
		size := 65535 - 12 - 11
		if edns {
			size -= 11
		}
		m = api.Message{Edns: edns, Answers: []api.Record{{Type: 99, Class: 3, Data: make([]byte, size)}}}
		if got := fits(t, m, 1<<40); left(got) != (kept{1, 0, 0, false}) || got.Edns != edns {
			t.Errorf("P6.4: 65535 bytes: %+v", left(got))
		}
		m.Answers[0].Data = make([]byte, size+1)
		if got := fits(t, m, 1<<40); left(got) != (kept{0, 0, 0, true}) || got.Edns != edns {
			t.Errorf("P6.4: 65536 bytes: %+v", left(got))
		}
	}
	m = section(3, 65535)
	for i := range m.Add {
		m.Add[i] = api.Record{Type: 98 + uint16(i%2), Class: 3}
	}
	b, e := wire.Fit(m, 65535)
	if got, f := wire.Read(b); e != api.OK || f != api.OK || len(got.Add) != 5956 || got.Tc {
		t.Errorf("P6.4: 65535 records: %v, %v, %d of them", e, f, len(got.Add))
	}
	m.Edns = true
	b, e = wire.Fit(m, 65535)
	if got, f := wire.Read(b); e != api.OK || f != api.OK || len(got.Add) != 5955 || got.Tc || !got.Edns {
		t.Errorf("P6.4: 65535 records with Edns: %v, %v, %d of them", e, f, len(got.Add))
	}
}

// TestFitWrong (P6.4): ErrWire, as Bytes, though what is wrong would be left
// out.
func TestFitWrong(t *testing.T) {
	m := api.Message{Answers: blocks("abcdef"), Add: []api.Record{{Name: api.Name{""}}}}
	notFit(t, m, 512, api.ErrWire)
	m.Add = []api.Record{{Data: make([]byte, 65536)}}
	notFit(t, m, 512, api.ErrWire)
	m.Add = nil
	m.Code = 16
	notFit(t, m, 512, api.ErrWire)
}

// TestFitMadeUp (P6.4): made-up messages at made-up sizes, and at the ends of
// their sets.
func TestFitMadeUp(t *testing.T) {
	r := &row{7}
	for range 60 {
		m := r.message()
		m.Answers, m.Auth, m.Add = r.records(20), r.records(15), r.records(15)
		whole, _ := wire.Bytes(m)
		for range 10 {
			size := 400 + r.next(len(whole))
			for range 3 {
				b, _ := wire.Fit(m, size)
				fits(t, m, size)
				size = len(b) - r.next(2)
			}
		}
	}
}

// TestId (P6.5): the first two bytes, and whether there are twelve.
func TestId(t *testing.T) {
	b := []byte{0xfe, 0xdc, 3, 4, 5, 6, 7, 8, 9, 10, 11, 12, 13}
	for size := range 12 {
		if id, ok := wire.Id(b[:size]); id != 0 || ok {
			t.Errorf("P6.5: %d bytes: %x, %v", size, id, ok)
		}
	}
	for size := 12; size < 14; size++ {
		if id, ok := wire.Id(b[:size]); id != 0xfedc || !ok {
			t.Errorf("P6.5: %d bytes: %x, %v", size, id, ok)
		}
	}
	if id, ok := wire.Id(nil); id != 0 || ok {
		t.Errorf("P6.5: no bytes: %x, %v", id, ok)
	}
	if id, ok := wire.Id(make([]byte, 100000)); id != 0 || !ok {
		t.Errorf("P6.5: 100000 bytes: %x, %v", id, ok)
	}
}

// FuzzFit: what was read is made to fit as the chapter says.
func FuzzFit(f *testing.F) {
	r := &row{8}
	for range 40 {
		m := r.message()
		m.Answers, m.Auth, m.Add = r.records(10), r.records(10), r.records(10)
		f.Add(writtenIn(m), 512+r.next(500))
	}
	f.Fuzz(func(t *testing.T, b []byte, size int) {
		if m, e := wire.Read(b); e == api.OK && len(b) < 5000 {
			fits(t, m, size)
		}
	})
}
