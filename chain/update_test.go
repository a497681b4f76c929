package chain_test

import (
	"fmt"
	"slices"
	"testing"

	"signet/api"
	"signet/chain"
	"signet/zone"
)

// step: a record that comes, or goes.
type step struct {
	put bool
	r   api.Record
}

// put, drop: steps.
func put(r api.Record) step  { return step{true, r} }
func drop(r api.Record) step { return step{false, r} }

// steps does them to z, and tells them as changes.
func steps(t *testing.T, z *zone.Zone, l []step) []api.Change {
	t.Helper()
	var out []api.Change
	for _, s := range l {
		one, ok := change(z, s.put, s.r)
		if !ok {
			t.Fatalf("no change: %v", s)
		}
		out = append(out, one)
	}
	return out
}

// common: a zone with something of each kind.
func common(t *testing.T) *zone.Zone {
	t.Helper()
	return zoned(t, "example", soa("ns", 50, 30), ns("example"), host("a.example"), host("b.a.example"), host("e.d.c.example"),
		ns("cut.example"), host("cut.example"), host("q.cut.example"), ns("r.cut.example"), host("s.r.cut.example"), ns("safe.example"), ds("safe.example"), text("*.w.example"))
}

// owners: whose names' records these are, of those that are named.
func owners(c api.Config, l []api.Record, names ...string) []string {
	var out []string
	for _, s := range names {
		if slices.ContainsFunc(l, func(r api.Record) bool { return r.Name[0] == label(hashed(c, named(s))) }) {
			out = append(out, s)
		}
	}
	return out
}

// TestUpdate (P18.2): what comes and goes with each kind of change, and how
// many records are told: new ones, ones of other types, ones ahead of others
// that came or went.
func TestUpdate(t *testing.T) {
	type list = []step
	all := list{}
	for _, r := range common(t).Records() {
		all = append(all, drop(r))
	}
	other, more := rec("cut.example", 2, 30, to("x")), rec("a.example", 1, 30, "bbbb")
	for i, x := range []struct {
		l    list
		told int
		len  int
	}{
		{nil, 0, 10},
		// Names that stay.
		{list{put(more)}, 0, 10}, {list{put(text("A.example"))}, 1, 10}, {list{put(text("a.example")), drop(host("a.example"))}, 1, 10}, {list{put(more), drop(host("a.example"))}, 0, 10}, {list{put(text("a.example")), drop(text("a.example"))}, 0, 10},
		{list{put(host("c.example"))}, 1, 10}, {list{put(host("example"))}, 1, 10}, {list{drop(host("a.example"))}, 1, 10}, {list{drop(ns("example"))}, 1, 10}, {list{put(rec("a.example", 1, 9, "aaaa"))}, 0, 10},
		// Names that come, and go.
		{list{put(host("new.example"))}, 2, 11}, {list{put(host("x.y.z.example"))}, 5, 13}, {list{put(host("x.y.d.c.example"))}, 4, 12}, {list{drop(host("b.a.example"))}, 1, 9}, {list{drop(host("e.d.c.example"))}, 2, 7}, {list{drop(text("*.w.example"))}, 2, 8},
		{list{drop(host("a.example")), drop(host("b.a.example"))}, 1, 8}, {list{put(host("new.example")), drop(host("new.example"))}, 0, 10}, {list{drop(host("b.a.example")), put(host("b.a.example"))}, 0, 10}, {list{drop(host("b.a.example")), put(text("b.a.example"))}, 1, 10},
		// Cuts that stay.
		{list{put(ds("cut.example"))}, 1, 10}, {list{drop(ds("safe.example"))}, 1, 10}, {list{drop(host("cut.example"))}, 0, 10}, {list{put(text("cut.example"))}, 0, 10}, {list{put(other)}, 0, 10}, {list{put(other), drop(ns("cut.example"))}, 0, 10}, {list{put(rec("cut.example", 2, 1, to("ns.far")))}, 0, 10},
		{list{put(host("new.cut.example"))}, 0, 10}, {list{drop(host("q.cut.example"))}, 0, 10}, {list{drop(ns("r.cut.example"))}, 0, 10}, {list{put(ns("q.cut.example")), put(ds("r.cut.example"))}, 0, 10}, {list{drop(host("s.r.cut.example")), put(ns("s.r.cut.example"))}, 0, 10},
		// Cuts that come, and go.
		{list{put(ns("a.example"))}, 2, 9}, {list{put(ns("b.a.example"))}, 1, 10}, {list{put(ns("c.example"))}, 2, 8}, {list{put(ns("d.c.example"))}, 2, 9}, {list{put(ns("d.c.example")), put(ns("c.example"))}, 2, 8}, {list{put(ns("new.example"))}, 2, 11}, {list{put(ns("new.example")), put(host("ns.new.example"))}, 2, 11},
		{list{drop(ns("cut.example"))}, 5, 12}, {list{drop(ns("cut.example")), drop(host("cut.example"))}, 5, 12}, {list{drop(ns("cut.example")), drop(ns("r.cut.example"))}, 7, 13}, {list{drop(ns("cut.example")), put(ns("q.cut.example"))}, 5, 12},
		{list{drop(ns("cut.example")), drop(host("q.cut.example")), put(host("new.cut.example"))}, 5, 12}, {list{drop(ns("safe.example"))}, 1, 10}, {list{drop(ns("safe.example")), drop(ds("safe.example"))}, 1, 9}, {list{drop(ns("cut.example")), put(ns("cut.example"))}, 0, 10},
		{list{put(ns("w.example")), put(host("x.w.example"))}, 2, 9}, {list{put(ns("*.w.example")), drop(text("*.w.example"))}, 1, 10}, {list{put(ns("example.example"))}, 2, 11},
		// The time to live, and all.
		{list{put(soa("zzz", 50, 9))}, 0, 10}, {list{put(soa("a", 50, 9))}, 10, 10}, {list{put(soa("a", 50, 30)), drop(soa("ns", 50, 30))}, 0, 10}, {list{put(soa("a", 50, 40)), drop(soa("ns", 50, 30))}, 10, 10}, {list{put(soa("z", 29, 30))}, 10, 10}, {list{put(soa("z", 30, 30))}, 0, 10}, {list{drop(soa("ns", 50, 30))}, 10, 10},
		{all, 1, 1}, {list{drop(soa("ns", 50, 30)), put(host("new.example"))}, 11, 11},
	} {
		c, z := settings("example"), common(t)
		r := chain.New(z, c)
		l := steps(t, z, x.l)
		got := follows(t, fmt.Sprintf("P18.2: %d", i), r, z, c, l)
		if len(got) != x.told || r.Len() != x.len {
			t.Errorf("P18.2: %d: %d told, of %d, not %d, of %d", i, len(got), r.Len(), x.told, x.len)
		}
	}
}

// TestTold (P18.2): whose records are told: the new name's, and that one's
// that is ahead of it.
func TestTold(t *testing.T) {
	c, z := settings("example"), common(t)
	r := chain.New(z, c)
	for i := range 40 {
		s := fmt.Sprintf("new%d.example", i)
		before, _ := r.Cover(named(s))
		got := follows(t, "P18.2", r, z, c, steps(t, z, []step{put(host(s))}))
		if len(got) != 2 || len(owners(c, got, s)) != 1 || got[0].Name[0] != before.Name[0] && got[1].Name[0] != before.Name[0] {
			t.Fatalf("P18.2: %s: %v", s, got)
		}
	}
	for i := range 40 {
		s := fmt.Sprintf("new%d.example", i)
		got := follows(t, "P18.2", r, z, c, steps(t, z, []step{drop(host(s))}))
		behind, _ := r.Cover(named(s))
		if len(got) != 1 || told(got[0]) != told(behind) {
			t.Fatalf("P18.2: %s: %v", s, got)
		}
	}
	if got, want := tells(r.Records()), tells(chain.New(common(t), c).Records()); !slices.Equal(got, want) {
		t.Errorf("P18.2: %q", got)
	}
}

// TestOtherZone (P18.2): the zone behind the changes may be another than that
// which the ring was made of.
func TestOtherZone(t *testing.T) {
	c, z := settings("EXAMPLE"), common(t)
	r := chain.New(z, c)
	want := tells(r.Records())
	next := z.Copy()
	l := steps(t, next, []step{drop(ns("cut.example")), put(host("new.example")), put(soa("a", 9, 9))})
	follows(t, "P18.2", r, next, c, l)
	l = steps(t, next, []step{put(ns("cut.example")), drop(host("new.example")), drop(soa("a", 9, 9)), put(soa("ns", 50, 30))})
	follows(t, "P18.2", r, z, c, l)
	if got := tells(r.Records()); !slices.Equal(got, want) {
		t.Errorf("P18.2: %q", got)
	}
}

// TestOtherChanges (P18.2): changes that changed nothing, and of names that
// aren't the zone's, say nothing.
func TestOtherChanges(t *testing.T) {
	c, z := settings("example"), common(t)
	r := chain.New(z, c)
	var l []api.Change
	for _, n := range []api.Name{nil, named("net"), named("xexample"), named("example"), named("q.Example"), named("A.example"), named("cut.example"), named("x.cut.example"), {"", "example"}, {"x", "", "example"}} {
		for _, kind := range []uint16{0, 1, 2, 6, 255} {
			l = append(l, api.Change{R: api.Record{Name: n, Type: kind}}, api.Change{Put: true, R: api.Record{Name: n, Type: kind, Class: 1}})
		}
	}
	for range 2 {
		if got := follows(t, "P18.2", r, z, c, l); len(got) > 0 {
			t.Errorf("P18.2: %v", got)
		}
	}
}

// TestStep (P18.2): a cut that comes and goes again and again, with names
// below it that change while they can't be seen.
func TestStep(t *testing.T) {
	c, z := settings("example"), common(t)
	r := chain.New(z, c)
	for i := range 10 {
		s := fmt.Sprintf("n%d.x.c.example", i)
		follows(t, "P18.2", r, z, c, steps(t, z, []step{put(ns("c.example"))}))
		follows(t, "P18.2", r, z, c, steps(t, z, []step{put(host(s))}))
		follows(t, "P18.2", r, z, c, steps(t, z, []step{put(ns(s))}))
		follows(t, "P18.2", r, z, c, steps(t, z, []step{put(ns("x.c.example"))}))
		follows(t, "P18.2", r, z, c, steps(t, z, []step{drop(ns("c.example"))}))
		follows(t, "P18.2", r, z, c, steps(t, z, []step{drop(ns("x.c.example"))}))
		follows(t, "P18.2", r, z, c, steps(t, z, []step{drop(ns(s)), put(host("a." + s))}))
	}
}
