package chain_test

import (
	"bytes"
	"fmt"
	"math"
	"slices"
	"strings"
	"sync"
	"testing"

	"signet/api"
	"signet/chain"
	"signet/zone"
)

// roomy: n, with labels in the spare room behind it.
func roomy(n api.Name) api.Name {
	return append(slices.Clone(n), "spare", "room")[:len(n)]
}

// spoil: other labels in n, and in the spare room behind it.
func spoil(n api.Name) {
	n = n[:cap(n)]
	for i := range n {
		n[i] = "spoilt"
	}
}

// spoilBytes: other bytes in b, and in the spare room behind it.
func spoilBytes(b []byte) {
	b = b[:cap(b)]
	for i := range b {
		b[i] ^= 0x55
	}
}

// every: a name with the spare room behind it, as text.
func every(n api.Name) string { return strings.Join(n[:cap(n)], ".") }

// TestKeptNothing (DOC, 3): what is handed in stays as it was, and isn't kept.
func TestKeptNothing(t *testing.T) {
	c, z := settings("Example"), common(t)
	c.Apex, c.Salt = roomy(c.Apex), append(bytes.Clone(c.Salt), "spare"...)[:len(c.Salt)]
	apex, salt, all := every(c.Apex), string(c.Salt[:cap(c.Salt)]), tells(z.Records())
	r := chain.New(z, c)
	want := tells(r.Records())
	if every(c.Apex) != apex || string(c.Salt[:cap(c.Salt)]) != salt || !slices.Equal(tells(z.Records()), all) {
		t.Errorf("DOC, 3: %q, %x", every(c.Apex), c.Salt[:cap(c.Salt)])
	}
	spoil(c.Apex)
	spoilBytes(c.Salt)
	l := steps(t, z, []step{drop(ns("cut.example")), put(host("New.cut.Example")), put(soa("a", 9, 9))})
	if !slices.Equal(tells(r.Records()), want) {
		t.Error("DOC, 3: a ring keeps the zone, or the settings")
	}
	var given []string
	for i := range l {
		l[i].R.Name = roomy(l[i].R.Name)
		given = append(given, every(l[i].R.Name)+told(l[i].R))
	}
	all = tells(z.Records())
	got := tells(r.Update(z, l))
	for i, x := range l {
		if every(x.R.Name)+told(x.R) != given[i] {
			t.Errorf("DOC, 3: change %d is %s", i, told(x.R))
		}
		spoil(x.R.Name)
		spoilBytes(x.R.Data)
	}
	names, ttl := model(z, settings("Example"))
	want = wanted(settings("Example"), ttl, names)
	if !slices.Equal(got, want) || !slices.Equal(tells(r.Records()), want) || !slices.Equal(tells(z.Records()), all) {
		t.Error("DOC, 3: a ring keeps the changes, or changes the zone")
	}
	for _, s := range []string{"New.cut.Example", "Far.Example"} {
		n := roomy(named(s))
		before := every(n)
		r.Match(n)
		r.Cover(n)
		if every(n) != before {
			t.Errorf("DOC, 3: %s", every(n))
		}
	}
}

// TestNewMemory (DOC, 3): what is answered is nobody else's.
func TestNewMemory(t *testing.T) {
	c, z := settings("example"), common(t)
	r := chain.New(z, c)
	for i := range 3 {
		told := r.Update(z, steps(t, z, []step{put(host(fmt.Sprintf("n%d.example", i))), put(soa("a", uint32(i), 9))}))
		if len(told) < 11 {
			t.Fatalf("%d told", len(told))
		}
		match, _ := r.Match(named("a.example"))
		cover, _ := r.Cover(named("far.example"))
		names, ttl := model(z, c)
		want := wanted(c, ttl, names)
		for _, l := range [][]api.Record{told, r.Records(), {match}, {cover}} {
			texts := tells(l)
			for k, x := range l {
				if tells(l)[k] != texts[k] {
					t.Errorf("DOC, 3: record %d shares memory", k)
				}
				spoil(x.Name)
				spoilBytes(x.Data)
			}
			if !slices.Equal(tells(r.Records()), want) {
				t.Fatal("DOC, 3: the ring has what it answered")
			}
		}
	}
}

// TestSameAgain (DOC, 8): the same is told again, beside others, and of zones
// whose records were put in another order; what was answered stays.
func TestSameAgain(t *testing.T) {
	c := settings("example")
	one := chain.New(common(t), c)
	want := tells(one.Records())
	kept := one.Records()
	list := common(t).Records()
	slices.Reverse(list)
	var group sync.WaitGroup
	for range 8 {
		group.Go(func() {
			for range 5 {
				z := zone.New(named("example"))
				for _, r := range list {
					z.Put(r)
				}
				r := chain.New(z, c)
				match, _ := r.Match(named("a.example"))
				cover, _ := r.Cover(named("far.example"))
				match1, _ := one.Match(named("a.example"))
				cover1, _ := one.Cover(named("far.example"))
				if !slices.Equal(tells(r.Records()), want) || !slices.Equal(tells(one.Records()), want) || told(match) != told(match1) || told(cover) != told(cover1) || one.Len() != r.Len() {
					t.Error("DOC, 8")
				}
			}
		})
	}
	group.Wait()
	z := common(t)
	one.Update(z, steps(t, z, []step{drop(ns("cut.example")), put(soa("a", 1, 1))}))
	if !slices.Equal(tells(kept), want) {
		t.Error("DOC, 3: an answer goes on with the ring")
	}
}

// TestNoZone (DOC, 1): no zone has no records.
func TestNoZone(t *testing.T) {
	c := settings("Example")
	r := chain.New(nil, c)
	want := wanted(c, 0, map[string]string{"example": apexBit})
	if got := tells(r.Records()); !slices.Equal(got, want) || r.Len() != 1 {
		t.Errorf("DOC, 1: %q", got)
	}
	z := common(t)
	r = chain.New(z, c)
	var l []api.Change
	for _, x := range z.Records() {
		l = append(l, api.Change{R: x})
	}
	if got := tells(r.Update(nil, l)); !slices.Equal(got, want) || !slices.Equal(tells(r.Records()), want) {
		t.Errorf("DOC, 1: %q", got)
	}
}

// strange: names that no record can have.
func strange() []api.Name {
	long := strings.Repeat("x", 1<<20)
	var out []api.Name
	for _, above := range []api.Name{{""}, {"", ""}, {"", "a"}, {"a", ""}, {long}, {"a", long}, {strings.Repeat("x", 64)}, {strings.Repeat("x", 256)}, slices.Repeat(api.Name{"x"}, 200), slices.Repeat(api.Name{"x"}, 1<<17), slices.Repeat(api.Name{""}, 1<<17)} {
		out = append(out, slices.Concat(above, named("example")), above)
	}
	return out
}

// TestStrangeNames (P18.3; DOC, 1): names that no record can have are covered.
func TestStrangeNames(t *testing.T) {
	c, z := settings("example"), common(t)
	r := chain.New(z, c)
	want := tells(r.Records())
	var l []api.Change
	for _, n := range strange() {
		if x, ok := r.Match(n); ok || told(x) != told(api.Record{}) {
			t.Errorf("P18.3: %.40q is matched", n)
		}
		if x, ok := r.Cover(n); !ok || !slices.Contains(want, told(x)) {
			t.Errorf("P18.3: %.40q isn't covered", n)
		}
		l = append(l, api.Change{Put: true, R: api.Record{Name: n, Type: 2, Class: 1}}, api.Change{R: api.Record{Name: n, Type: 6}})
	}
	if got := r.Update(z, l); len(got) > 0 || !slices.Equal(tells(r.Records()), want) {
		t.Errorf("P18.2: %v", got)
	}
}

// TestStrangeSettings (DOC, 1): settings that config.Check refuses, and zones
// and changes that aren't what they are said to be: calls end, and the apex is
// of the ring.
func TestStrangeSettings(t *testing.T) {
	changes := []api.Change{{R: ns("cut.example")}, {R: host("a.example")}, {R: soa("a", 1, 1)}, {R: host("net")}}
	for i, apex := range append(strange(), nil, named("net"), named("a.example"), named("q.cut.example")) {
		c := api.Config{Apex: apex, Iter: uint16(i % 2), MaxTtl: math.MaxUint32}
		if i%3 == 0 {
			c.Salt = make([]byte, 300)
		}
		for _, z := range []*zone.Zone{common(t), zone.New(apex)} {
			r := chain.New(z, c)
			r.Update(nil, changes)
			r.Update(common(t), nil)
			r.Update(zone.New(named("net")), changes[:1])
			r.Update(common(t), changes)
			_, matched := r.Match(apex)
			_, covered := r.Cover(named("far"))
			if !matched || !covered || len(r.Records()) != r.Len() {
				t.Fatalf("P18.3: %.40q", apex)
			}
		}
	}
	c := settings("example")
	c.Iter = math.MaxUint16
	if r := chain.New(common(t), c); r.Len() != 10 {
		t.Errorf("DOC, 1: %d", r.Len())
	}
}

// TestMany (P18.1, P18.2; DOC, limits): as many records as a zone may have, at
// as many iterations as there may be; names of as many labels as a name has.
func TestMany(t *testing.T) {
	c, z := settings("example"), zone.New(named("example"))
	c.Iter = 50
	r := chain.New(z, c)
	var l []api.Change
	for i := range 2000 {
		one, ok := change(z, true, host(fmt.Sprintf("n%d.example", i)))
		if !ok {
			t.Fatal("helps")
		}
		l = append(l, one)
	}
	follows(t, "P18.2", r, z, c, l)
	if r.Len() != 2001 || len(chain.New(z, c).Records()) != 2001 {
		t.Errorf("P18.1: %d", r.Len())
	}
	follows(t, "P18.2", r, z, c, steps(t, z, []step{drop(host("n77.example")), put(host("n77.n78.n79.example"))}))
	deep := zone.New(named("example"))
	c.Iter = 0
	for i := range 26 {
		s := strings.Repeat(string(rune('a'+i))+".", 123) + "example"
		if _, ok := change(deep, true, host(s)); !ok {
			t.Fatal("helps")
		}
	}
	names, ttl := model(deep, c)
	r = rings(t, "P18.1", deep, c, ttl, names)
	if r.Len() != 26*123+1 {
		t.Errorf("P18.1: %d", r.Len())
	}
	follows(t, "P18.2", r, deep, c, steps(t, deep, []step{put(ns("a.example")), put(ns("b.b.example")), drop(host(strings.Repeat("c.", 123) + "example"))}))
	if r.Len() != 23*123+4 {
		t.Errorf("P18.2: %d", r.Len())
	}
}

// TestCost (P18.2): one change costs far less than a new ring.
func TestCost(t *testing.T) {
	c, z := settings("example"), zone.New(named("example"))
	for i := range 1000 {
		z.Put(host(fmt.Sprintf("n%d.example", i)))
	}
	r := chain.New(z, c)
	whole := testing.AllocsPerRun(1, func() { chain.New(z, c) })
	for _, x := range []api.Record{host("new.x.example"), text("n5.example"), ns("n6.example"), ns("new.example")} {
		one := testing.AllocsPerRun(1, func() {
			r.Update(z, steps(t, z, []step{put(x)}))
			r.Update(z, steps(t, z, []step{drop(x)}))
		})
		if one > whole/20 {
			t.Errorf("P18.2: %s: %.0f, where a new ring costs %.0f", told(x), one, whole)
		}
	}
}
