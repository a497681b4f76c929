package lookup_test

import (
	"bytes"
	"math/rand"
	"slices"
	"testing"

	"signet/api"
	"signet/lookup"
	"signet/name"
	"signet/rdata"
	"signet/zone"
)

// model: a zone in the chapter's words: a list of records, asked by going
// through all of it.
type model struct {
	apex api.Name
	list []api.Record // in the order of zone.Records
}

// set: the records of n and t.
func (m *model) set(n api.Name, t uint16) []api.Set {
	var out []api.Set
	for _, r := range m.list {
		switch {
		case !name.Same(r.Name, n) || r.Type != t:
		case len(out) == 0:
			out = []api.Set{{Name: name.Lower(n), Type: t, Ttl: r.Ttl, Data: [][]byte{r.Data}}}
		default:
			out[0].Data = append(out[0].Data, r.Data)
		}
	}
	return out
}

// sets: all of n, by types (those of anyRecord).
func (m *model) sets(n api.Name) []api.Set {
	var out []api.Set
	for _, t := range []uint16{1, 2, 5, 6, 16, 28, 43} {
		out = append(out, m.set(n, t)...)
	}
	return out
}

func (m *model) has(n api.Name) bool {
	return slices.ContainsFunc(m.list, func(r api.Record) bool { return name.Within(r.Name, n) })
}

// cut: how many labels the topmost cut at or above n has; 0: there is none.
func (m *model) cut(n api.Name) int {
	for count := len(m.apex) + 1; count <= len(n); count++ {
		if len(m.set(n[len(n)-count:], 2)) > 0 {
			return count
		}
	}
	return 0
}

// closest: how many labels the closest encloser of n, within the apex, has.
func (m *model) closest(n api.Name) int {
	for count := len(n); count > len(m.apex); count-- {
		if m.has(n[len(n)-count:]) {
			return count
		}
	}
	return len(m.apex)
}

// find: the answer for n behind the names that were asked ahead.
func (m *model) find(n api.Name, t uint16, ahead []api.Name, f lookup.Found) lookup.Found {
	f.At = n
	if count := m.cut(n); count > 0 && (t != 43 || count != len(n) || len(ahead) > 0) {
		return m.refer(n[len(n)-count:], f)
	}
	there := m.sets(n)
	if len(there) == 0 && !m.has(n) {
		wild := append(api.Name{"*"}, name.Lower(n[len(n)-m.closest(n):])...)
		there = m.sets(wild)
		if len(there) == 0 {
			f.Kind, f.Auth = api.LookNothing, m.set(m.apex, 6)
			return f
		}
		f.Wild = append(f.Wild, wild)
	}
	var alias []byte
	var fit []api.Set
	for _, s := range there {
		s.Name = name.Lower(n)
		if t == 255 || s.Type == t {
			fit = append(fit, s)
		}
		if s.Type == 5 {
			alias = s.Data[0]
		}
	}
	if len(fit) == 0 && alias != nil {
		for _, s := range there {
			if s.Type == 5 {
				s.Name = name.Lower(n)
				f.Answers = append(f.Answers, s)
			}
		}
		return m.follow(alias, t, append(ahead, n), f)
	}
	f.Answers = append(f.Answers, fit...)
	if len(fit) == 0 {
		f.Kind, f.Auth = api.LookNone, m.set(m.apex, 6)
	}
	return f
}

func (m *model) follow(alias []byte, t uint16, ahead []api.Name, f lookup.Found) lookup.Found {
	n, _, _ := name.Open(alias)
	ring := slices.ContainsFunc(ahead, func(x api.Name) bool { return slices.Equal(name.Lower(x), name.Lower(n)) })
	if ring || len(ahead) == 8 || !name.Within(n, m.apex) {
		f.Kind, f.At = api.LookAlias, n
		return f
	}
	return m.find(n, t, ahead, f)
}

func (m *model) refer(cut api.Name, f lookup.Found) lookup.Found {
	f.Kind = api.LookReferral
	f.Auth = append(m.set(cut, 2), m.set(cut, 43)...)
	for _, data := range f.Auth[0].Data {
		n, _, _ := name.Open(data)
		if name.Within(n, m.apex) && m.cut(n) > 0 {
			f.Add = append(append(f.Add, m.set(n, 1)...), m.set(n, 28)...)
		}
	}
	return f
}

// anyName: one of few, mostly within the apex.
func anyName(r *rand.Rand, apex api.Name) api.Name {
	labels := []string{"a", "A", "b", "*", "c", "*", "ab"}
	var n api.Name
	for range r.Intn(4) {
		n = append(n, labels[r.Intn(len(labels))])
	}
	if r.Intn(20) == 0 {
		return append(n, "net")
	}
	n = append(n, apex...)
	if len(n) > 0 && r.Intn(10) == 0 {
		n[len(n)-1] = string(bytes.ToUpper([]byte(n[len(n)-1])))
	}
	return n
}

// anyRecord: one of few types.
func anyRecord(r *rand.Rand, apex api.Name) api.Record {
	kinds := []uint16{1, 1, 28, 2, 2, 5, 5, 5, 5, 43, 6, 16}
	t := kinds[r.Intn(len(kinds))]
	out := api.Record{Name: anyName(r, apex), Type: t, Class: 1, Ttl: 100 + uint32(t)}
	switch t {
	case 2, 5:
		out.Data = name.Wire(anyName(r, apex))
	case 6:
		out.Data = rdata.SoaBytes(api.Soa{Main: anyName(r, apex), Serial: 7})
	case 16:
		out.Data = []byte{1, byte('a' + r.Intn(3))}
	default:
		out.Data = bytes.Repeat([]byte{byte('0' + r.Intn(3))}, map[uint16]int{1: 4, 28: 16, 43: 5}[t])
	}
	return out
}

// TestModel (P16.1, P16.2): any zones, any questions.
func TestModel(t *testing.T) {
	r := rand.New(rand.NewSource(16))
	seen := map[int]int{}
	longest, wilds, glue := 0, 0, 0
	for _, apex := range []api.Name{{"example"}, {"b", "a"}, nil} {
		for range 1500 {
			z := zone.New(apex)
			for range r.Intn(25) {
				z.Put(anyRecord(r, apex))
			}
			m := &model{apex: apex, list: z.Records()}
			for range 25 {
				q, kind := anyName(r, apex), []uint16{1, 28, 2, 5, 43, 6, 16, 255, 0}[r.Intn(9)]
				want := lookup.Found{Kind: api.LookNothing, At: q}
				if name.Within(q, apex) {
					want = m.find(q, kind, nil, lookup.Found{})
					count := m.closest(q)
					encloser, next := lookup.Closest(z, q)
					if !slices.Equal(encloser, q[len(q)-count:]) || !slices.Equal(next, q[len(q)-min(len(q), count+1):]) {
						t.Fatalf("P16.2: %q in\n%s:\n%q, %q", q, records(z), encloser, next)
					}
				}
				got := lookup.Find(z, q, kind)
				if told(got) != told(want) {
					t.Fatalf("P16.1: %q %d in\n%s:\n%s, not\n%s", q, kind, records(z), told(got), told(want))
				}
				seen[got.Kind]++
				longest = max(longest, len(got.Answers))
				wilds = max(wilds, len(got.Wild))
				glue = max(glue, len(got.Add))
			}
		}
	}
	t.Logf("kinds %v, at most %d answers, %d wild ones, %d beside", seen, longest, wilds, glue)
	for kind := range 5 {
		if seen[kind] < 100 {
			t.Errorf("kind %d: %d times alone", kind, seen[kind])
		}
	}
}
