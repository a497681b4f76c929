package zone_test

import (
	"bytes"
	"math/rand"
	"slices"
	"testing"

	"signet/api"
	"signet/name"
	"signet/rdata"
	"signet/zone"
)

// model: a zone in the chapter's words: a list of records, as they were put.
type model struct {
	apex api.Name
	list []api.Record
}

// canon: data by which records are held against one another.
func canon(r api.Record) []byte {
	b, _ := rdata.Canon(r.Type, r.Data)
	return b
}

// same: whether a and b are of one name and type.
func same(a, b api.Record) bool { return name.Same(a.Name, b.Name) && a.Type == b.Type }

// where: the place of the record of r's name, type and data; -1, if there is none.
func (m *model) where(r api.Record) int {
	if rdata.Check(r.Type, r.Data) != api.OK {
		return -1
	}
	return slices.IndexFunc(m.list, func(x api.Record) bool {
		return same(x, r) && bytes.Equal(canon(x), canon(r))
	})
}

func (m *model) put(r api.Record) (bool, api.Errno) {
	at := m.where(r)
	switch {
	case name.Check(r.Name) != api.OK, !name.Within(r.Name, m.apex):
		return false, api.ErrZoneName
	case r.Class != 1, rdata.Check(r.Type, r.Data) != api.OK:
		return false, api.ErrData
	case at >= 0 && m.list[at].Ttl == r.Ttl:
		return false, api.OK
	case at < 0 && len(m.list) == 2000:
		return false, api.ErrZoneFull
	case at < 0:
		r.Name = name.Lower(r.Name)
		m.list = append(m.list, r)
	}
	for i, x := range m.list {
		if same(x, r) {
			m.list[i].Ttl = r.Ttl
		}
	}
	return true, api.OK
}

func (m *model) drop(r api.Record) bool {
	at := m.where(r)
	if at >= 0 {
		m.list = slices.Delete(slices.Clone(m.list), at, at+1)
	}
	return at >= 0
}

func (m *model) dropSet(n api.Name, t uint16) int {
	before := len(m.list)
	m.list = slices.DeleteFunc(slices.Clone(m.list), func(x api.Record) bool {
		return name.Same(x.Name, n) && (t == 255 || x.Type == t)
	})
	return before - len(m.list)
}

// sorted: all records, in order of names, types, Canon.
func (m *model) sorted() []api.Record {
	return slices.SortedFunc(slices.Values(m.list), func(a, b api.Record) int {
		if c := name.Compare(a.Name, b.Name); c != 0 {
			return c
		}
		if a.Type != b.Type {
			return int(a.Type) - int(b.Type)
		}
		return bytes.Compare(canon(a), canon(b))
	})
}

func (m *model) has(n api.Name) bool {
	return slices.ContainsFunc(m.list, func(x api.Record) bool { return name.Within(x.Name, n) })
}

func (m *model) cut(n api.Name) (api.Name, bool) {
	var best api.Name
	found := false
	for _, x := range m.list {
		if x.Type == 2 && len(x.Name) > len(m.apex) && name.Within(n, x.Name) && (!found || len(x.Name) < len(best)) {
			best, found = x.Name, true
		}
	}
	return best, found
}

func (m *model) copy() *model { return &model{apex: m.apex, list: slices.Clone(m.list)} }

// agrees: z tells at n, and as a whole, what m tells.
func agrees(t *testing.T, z *zone.Zone, m *model, n api.Name) {
	t.Helper()
	list := m.sorted()
	holds(t, "P15.2", z, list...)
	var names []api.Name
	var types []uint16
	for _, r := range list {
		if len(names) == 0 || !name.Same(names[len(names)-1], r.Name) {
			names = append(names, r.Name)
		}
		if name.Same(r.Name, n) {
			types = append(types, r.Type)
		}
	}
	if !slices.Equal(texts(z.Names()), texts(names)) {
		t.Fatalf("P15.2: Names: %q", z.Names())
	}
	if !slices.Equal(z.Types(n), slices.Compact(types)) {
		t.Fatalf("P15.2: Types(%q): %v", n, z.Types(n))
	}
	if z.Has(n) != m.has(n) {
		t.Fatalf("P15.2: Has(%q): %v", n, z.Has(n))
	}
	want, _ := m.cut(n)
	cut, ok := z.Cut(n)
	if ok != (len(want) > 0) || !slices.Equal(cut, want) {
		t.Fatalf("P15.3: Cut(%q): %q, not %q", n, cut, want)
	}
	for _, kind := range []uint16{0, 1, 2, 5, 99, 255} {
		agreesSet(t, z, list, n, kind)
	}
}

// agreesSet: z's set is that of the records of list, which are in order.
func agreesSet(t *testing.T, z *zone.Zone, list []api.Record, n api.Name, kind uint16) {
	t.Helper()
	var want []api.Record
	for _, r := range list {
		if name.Same(r.Name, n) && r.Type == kind {
			want = append(want, r)
		}
	}
	s, ok := z.Set(n, kind)
	if ok != (len(want) > 0) || len(s.Data) != len(want) {
		t.Fatalf("P15.2: Set(%q, %d): %v, %v", n, kind, s, ok)
	}
	for i, r := range want {
		got := api.Record{Name: s.Name, Type: s.Type, Class: 1, Ttl: s.Ttl, Data: s.Data[i]}
		if told(got) != told(r) {
			t.Fatalf("P15.2: Set(%q, %d): %q, not %q", n, kind, told(got), told(r))
		}
	}
}

// anyName: one of few, mostly within example.
func anyName(r *rand.Rand) api.Name {
	labels := []string{"a", "A", "b", "*", "ab", "\x00", "B"}
	var n api.Name
	for range r.Intn(4) {
		n = append(n, labels[r.Intn(len(labels))])
	}
	switch r.Intn(20) {
	case 0:
		return n
	case 1:
		return append(n, "", "example")
	case 2:
		return append(n, "net")
	case 3:
		return append(n, "EXAMPLE")
	}
	return append(n, "example")
}

// anyRecord: one of few.
func anyRecord(r *rand.Rand) api.Record {
	data := map[uint16][]string{
		0:   {"", "A", "a"},
		1:   {"1234", "abcd", "ABCD", "123"},
		2:   {"\x00", "\x01a\x00", "\x01A\x00", "\x01b\x00", "\x01"},
		5:   {"\x01Q\x00", "\x01q\x00", ""},
		99:  {"", "x", "X"},
		255: {"", "x"},
	}
	kinds := []uint16{0, 1, 2, 2, 5, 99, 255}
	out := api.Record{Name: anyName(r), Type: kinds[r.Intn(len(kinds))], Class: 1, Ttl: uint32(r.Intn(3))}
	if r.Intn(20) == 0 {
		out.Class = []uint16{0, 254, 255}[r.Intn(3)]
	}
	list := data[out.Type]
	out.Data = []byte(list[r.Intn(len(list))])
	return out
}

// TestLives (P15.1 to P15.4): any lives, with copies, against the model; what
// a zone was copied from goes on as it was.
func TestLives(t *testing.T) {
	for seed := range int64(60) {
		r := rand.New(rand.NewSource(seed))
		apex := []api.Name{{"example"}, {"Example"}, {"a", "example"}, nil}[seed%4]
		z, m := zone.New(apex), &model{apex: apex}
		var old *zone.Zone
		var oldModel *model
		for range 150 {
			x := anyRecord(r)
			switch r.Intn(12) {
			case 0, 1, 2:
				if got, want := z.Drop(x), m.drop(x); got != want {
					t.Fatalf("P15.1: Drop(%q): %v", told(x), got)
				}
			case 3:
				if got, want := z.DropSet(x.Name, x.Type), m.dropSet(x.Name, x.Type); got != want {
					t.Fatalf("P15.1: DropSet(%q, %d): %d, not %d", x.Name, x.Type, got, want)
				}
			case 4:
				old, oldModel = z, m
				z, m = z.Copy(), m.copy()
			default:
				got, e := z.Put(x)
				want, wantE := m.put(x)
				if got != want || e != wantE {
					t.Fatalf("P15.1: Put(%q): %v, %v, not %v, %v", told(x), got, e, want, wantE)
				}
			}
			agrees(t, z, m, anyName(r))
			if old != nil {
				agrees(t, old, oldModel, x.Name)
			}
			if old != nil && r.Intn(3) == 0 {
				z, m, old, oldModel = old, oldModel, z, m
			}
		}
	}
}
