package update_test

import (
	"bytes"
	"math/rand"
	"slices"
	"strings"
	"testing"

	"signet/api"
	"signet/name"
	"signet/rdata"
	"signet/update"
	"signet/zone"
)

// model: a zone in the chapter's words: its apex, and a list of records.
type model struct {
	apex api.Name
	list []api.Record
}

// canon: data by which records are held against one another.
func canon(r api.Record) string {
	b, _ := rdata.Canon(r.Type, r.Data)
	return string(b)
}

// at: the records at n that are of type t, or of all types (-1), in order.
func (m *model) at(n api.Name, t int) []api.Record {
	var out []api.Record
	for _, r := range m.list {
		if name.Same(r.Name, n) && (t < 0 || int(r.Type) == t) {
			out = append(out, r)
		}
	}
	slices.SortFunc(out, inOrder)
	return out
}

// inOrder: names, types, Canon.
func inOrder(a, b api.Record) int {
	if c := name.Compare(a.Name, b.Name); c != 0 {
		return c
	}
	if a.Type != b.Type {
		return int(a.Type) - int(b.Type)
	}
	return strings.Compare(canon(a), canon(b))
}

// remove takes away those records of which that is so.
func (m *model) remove(so func(api.Record) bool) {
	m.list = slices.DeleteFunc(slices.Clone(m.list), so)
}

// is: whether a and b are one record, whatever their times to live.
func is(a, b api.Record) bool {
	return name.Same(a.Name, b.Name) && a.Type == b.Type && canon(a) == canon(b) && rdata.Check(b.Type, b.Data) == api.OK
}

// put: as zone.Put; whether there was room.
func (m *model) put(r api.Record) bool {
	if name.Check(r.Name) != api.OK {
		return true
	}
	at := slices.IndexFunc(m.list, func(x api.Record) bool { return is(x, r) })
	if at < 0 && len(m.list) == 2000 {
		return false
	}
	if at < 0 {
		r.Name = name.Lower(r.Name)
		m.list = append(m.list, r)
	}
	for i, x := range m.list {
		if name.Same(x.Name, r.Name) && x.Type == r.Type {
			m.list[i].Ttl = r.Ttl
		}
	}
	return true
}

// prereq: P17.2.
func (m *model) prereq(l []api.Record) int {
	for _, r := range l {
		there := m.at(r.Name, int(r.Type))
		if r.Type == 255 {
			there = m.at(r.Name, -1)
		}
		code := 0
		switch {
		case r.Ttl != 0:
			return 1
		case !name.Within(r.Name, m.apex):
			return 10
		case r.Class == 1 && rdata.Check(r.Type, r.Data) != api.OK:
			return 1
		case r.Class == 1:
			continue
		case r.Class != 254 && r.Class != 255 || len(r.Data) > 0:
			return 1
		case r.Class == 255 && len(there) == 0:
			code = 8
			if r.Type == 255 {
				code = 3
			}
		case r.Class == 254 && len(there) > 0:
			code = 7
			if r.Type == 255 {
				code = 6
			}
		}
		if code != 0 {
			return code
		}
	}
	for _, r := range l {
		if r.Class == 1 && !m.just(r, l) {
			return 8
		}
	}
	return 0
}

// just: whether the set of r's name and type is what l says.
func (m *model) just(r api.Record, l []api.Record) bool {
	var want, got []string
	for _, x := range l {
		if x.Class == 1 && x.Type == r.Type && name.Same(x.Name, r.Name) {
			want = append(want, canon(x))
		}
	}
	for _, x := range m.at(r.Name, int(r.Type)) {
		got = append(got, canon(x))
	}
	slices.Sort(want)
	return slices.Equal(slices.Compact(want), got)
}

// scan: P17.3.
func (m *model) scan(maxTtl uint32, l []api.Record) int {
	for _, r := range l {
		signing := r.Type == 46 || r.Type == 48 || r.Type == 50 || r.Type == 51
		apex := name.Same(r.Name, m.apex)
		bad, refused := true, signing
		switch r.Class {
		case 1:
			bad = r.Type == 255 || r.Type == 41 || rdata.Check(r.Type, r.Data) != api.OK
			refused = signing || r.Ttl > maxTtl || r.Type == 43 && apex || r.Type == 2 && len(r.Name) > 0 && r.Name[0] == "*"
		case 254:
			bad = r.Ttl != 0 || r.Type == 255 || r.Type == 41
		case 255:
			bad = r.Ttl != 0 || len(r.Data) > 0 || r.Type == 41
		}
		switch {
		case !name.Within(r.Name, m.apex):
			return 10
		case bad:
			return 1
		case refused:
			return 5
		}
	}
	return 0
}

// serial: that of a record.
func serialOf(r api.Record) uint32 {
	s, _ := rdata.Soa(r.Data)
	return s.Serial
}

// do: P17.4, of one record; whether there was room.
func (m *model) do(r api.Record) bool {
	apex := name.Same(r.Name, m.apex)
	here := m.at(r.Name, -1)
	set := m.at(r.Name, int(r.Type))
	switch r.Class {
	case 255:
		m.remove(func(x api.Record) bool {
			return name.Same(x.Name, r.Name) && (r.Type == 255 || x.Type == r.Type) && !(apex && (x.Type == 6 || x.Type == 2))
		})
		return true
	case 254:
		if r.Type != 6 && !(apex && r.Type == 2 && len(set) == 1) {
			m.remove(func(x api.Record) bool { return is(x, r) })
		}
		return true
	}
	clash := slices.ContainsFunc(here, func(x api.Record) bool { return (x.Type == 5) != (r.Type == 5) })
	if clash || r.Type == 6 && (!apex || len(set) == 0) {
		return true
	}
	if r.Type == 6 {
		if ahead := serialOf(r) - serialOf(set[0]); ahead == 0 || ahead >= 1<<31 {
			return true
		}
	}
	if r.Type == 6 || r.Type == 5 {
		m.remove(func(x api.Record) bool { return name.Same(x.Name, r.Name) && x.Type == r.Type })
	}
	return m.put(r)
}

// texts: the records of l that others hasn't, in order.
func texts(l, others []api.Record, sign string) []string {
	var out []string
	l = slices.Clone(l)
	slices.SortFunc(l, inOrder)
	for _, r := range l {
		if !slices.ContainsFunc(others, func(x api.Record) bool { return told(x) == told(r) && bytes.Equal(x.Data, r.Data) }) {
			out = append(out, sign+told(r))
		}
	}
	return out
}

// apply: P17.1, of a message with the right question.
func (m *model) apply(maxTtl uint32, msg api.Message) (int, []string) {
	if code := m.prereq(msg.Answers); code != 0 {
		return code, nil
	}
	if code := m.scan(maxTtl, msg.Auth); code != 0 {
		return code, nil
	}
	before := slices.Clone(m.list)
	for _, r := range msg.Auth {
		if !m.do(r) {
			m.list = before
			return 2, nil
		}
	}
	told := func() []string { return append(texts(before, m.list, "-"), texts(m.list, before, "+")...) }
	if len(told()) == 0 {
		return 0, nil
	}
	old := (&model{list: before}).at(m.apex, 6)
	now := m.at(m.apex, 6)
	if len(now) > 0 && serialOf(now[0]) == serialOf(old[0]) {
		m.remove(func(x api.Record) bool { return is(x, now[0]) })
		parts, _ := rdata.Soa(now[0].Data)
		parts.Serial++
		if parts.Serial == 0 {
			parts.Serial = 1
		}
		r := now[0]
		r.Data = rdata.SoaBytes(parts)
		m.put(r)
	}
	return 0, told()
}

// pick: one of l.
func pick[T any](r *rand.Rand, l ...T) T { return l[r.Intn(len(l))] }

// anyName: one of few, mostly within the apex.
func anyName(r *rand.Rand, apex api.Name) api.Name {
	var n api.Name
	for range pick(r, 0, 0, 1, 1, 1, 2) {
		n = append(n, pick(r, "a", "A", "b", "*"))
	}
	switch r.Intn(120) {
	case 0:
		return n
	case 1:
		return slices.Concat(n, api.Name{""}, apex)
	case 2:
		return append(n, "net")
	case 3, 4, 5, 6, 7, 8:
		return slices.Concat(n, named(strings.ToUpper(name.Text(apex))))
	}
	return slices.Concat(n, apex)
}

// anyData: of a type, mostly such as may be.
func anyData(r *rand.Rand, t uint16) string {
	if r.Intn(100) == 0 {
		return ""
	}
	switch t {
	case 1:
		return pick(r, "aaaa", "bbbb", "cccc")
	case 2, 5:
		return to(pick(r, "x", "X", "y"))
	case 6:
		return soaData(pick(r, "x", "X", "y"), pick[uint32](r, 1, 2, 3, 1<<30, 1<<31, 3<<30, 1<<32-1, 0))
	case 43, 46, 48, 50, 51:
		return right(t)
	}
	return pick(r, "", "x", "X")
}

// anyType: one of few, of those that signing needs, and others that may not
// be, rarely.
func anyType(r *rand.Rand) uint16 {
	if r.Intn(60) == 0 {
		return pick[uint16](r, 41, 46, 48, 50, 51, 255)
	}
	return pick[uint16](r, 1, 1, 1, 2, 2, 5, 5, 6, 43, 99)
}

// anyUpdate: a record that may mostly be.
func anyUpdate(r *rand.Rand, apex api.Name) api.Record {
	x := api.Record{Name: anyName(r, apex), Type: anyType(r), Class: pick[uint16](r, 1, 1, 1, 254, 255)}
	if r.Intn(100) == 0 {
		x.Class = pick[uint16](r, 0, 3, 253, 256)
	}
	if x.Class == 1 || r.Intn(100) == 0 {
		x.Ttl = pick[uint32](r, 0, 3, 3, 4, 10)
	}
	if r.Intn(100) == 0 {
		x.Ttl = 11
	}
	if x.Class == 255 && r.Intn(3) == 0 {
		x.Type = 255
	}
	if x.Class != 255 || r.Intn(100) == 0 {
		x.Data = []byte(anyData(r, x.Type))
	}
	return x
}

// anyPrereqs: some of which there are sets, some at random.
func anyPrereqs(r *rand.Rand, m *model) []api.Record {
	var out []api.Record
	for range pick(r, 0, 0, 0, 1, 2, 3) {
		x := anyUpdate(r, m.apex)
		if x.Class != 1 && x.Class != 255 || r.Intn(3) > 0 {
			x.Class = 254
		}
		if r.Intn(3) == 0 {
			x.Type = 255
		}
		if x.Class != 1 {
			x.Data = nil
		}
		if r.Intn(50) > 0 {
			x.Ttl = 0
		}
		out = append(out, x)
	}
	if len(m.list) > 0 && r.Intn(3) == 0 {
		one := pick(r, m.list...)
		for _, x := range m.at(one.Name, int(one.Type)) {
			x.Ttl = 0
			out = append(out, x)
		}
	}
	r.Shuffle(len(out), func(i, k int) { out[i], out[k] = out[k], out[i] })
	return out
}

// start: a zone with records, often such as no update would leave.
func start(r *rand.Rand, apex api.Name) (*zone.Zone, *model) {
	z, m := zone.New(apex), &model{apex: apex}
	for range r.Intn(8) {
		x := api.Record{Name: anyName(r, apex), Type: anyType(r), Class: 1, Ttl: uint32(r.Intn(3))}
		x.Data = []byte(anyData(r, x.Type))
		if _, e := z.Put(x); e == api.OK {
			m.put(x)
		}
	}
	if r.Intn(4) > 0 {
		x := api.Record{Name: apex, Type: 6, Class: 1, Ttl: 3, Data: []byte(soaData("x", 1<<32-1))}
		z.Put(x)
		m.put(x)
	}
	return z, m
}

// agrees: z has just m's records.
func agrees(t *testing.T, seed int64, z *zone.Zone, m *model) {
	t.Helper()
	got, want := texts(z.Records(), nil, ""), texts(m.list, nil, "")
	if !slices.Equal(got, want) || z.Len() != len(want) {
		t.Fatalf("P17.1: seed %d: the zone is\n%q, not\n%q", seed, got, want)
	}
}

// TestLives (P17.1 to P17.5): any zones and updates, against the model.
func TestLives(t *testing.T) {
	codes := map[int]int{}
	for seed := range int64(600) {
		r := rand.New(rand.NewSource(seed))
		apex := pick(r, api.Name{"example"}, api.Name{"example"}, api.Name{"a", "example"}, nil)
		z, m := start(r, apex)
		agrees(t, seed, z, m)
		for range 20 {
			msg := message(anyPrereqs(r, m), nil)
			msg.Questions[0].Name = apex
			for range r.Intn(6) {
				msg.Auth = append(msg.Auth, anyUpdate(r, apex))
			}
			if got, want := update.Prereq(z, msg.Answers), m.prereq(msg.Answers); got != want {
				t.Fatalf("P17.2: seed %d: %d, not %d: %v", seed, got, want, msg.Answers)
			}
			if got, want := update.Scan(z, 10, msg.Auth), m.scan(10, msg.Auth); got != want {
				t.Fatalf("P17.3: seed %d: %d, not %d: %v", seed, got, want, msg.Auth)
			}
			code, l := update.Apply(z, 10, msg)
			want, changes := m.apply(10, msg)
			var got []string
			for _, c := range l {
				sign := "-"
				if c.Put {
					sign = "+"
				}
				got = append(got, sign+told(c.R))
			}
			if code != want || !slices.Equal(got, changes) {
				t.Fatalf("P17.4: seed %d: %d, %q, not %d, %q", seed, code, got, want, changes)
			}
			agrees(t, seed, z, m)
			codes[code]++
			if len(l) > 0 {
				codes[-1]++
			}
		}
	}
	for _, code := range []int{-1, 0, 1, 3, 5, 6, 7, 8, 10} {
		if codes[code] < 20 {
			t.Errorf("code %d came %d times", code, codes[code])
		}
	}
}
