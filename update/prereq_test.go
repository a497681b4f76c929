package update_test

import (
	"slices"
	"strings"
	"testing"

	"signet/api"
	"signet/update"
	"signet/zone"
)

// TestPrereq (P17.2): each class, and which code is the first one.
func TestPrereq(t *testing.T) {
	z := common(t, rec("any.example", 255, 1, "x"), rec("opt.example", 41, 1, ""), rec("many.example", 99, 30, ""))
	late := func(r api.Record) api.Record {
		r.Ttl = 1
		return r
	}
	type list = []api.Record
	for i, x := range []struct {
		l    list
		code int
	}{
		{nil, 0},
		// The time to live, then the name, then the class.
		{list{late(of("far", 1, 3, "x"))}, 1}, {list{late(of("ns.example", 1, 255, ""))}, 1}, {list{late(of("q.example", 1, 254, ""))}, 1}, {list{late(of("ns.example", 1, 1, "aaaa"))}, 1},
		{list{of("far", 1, 3, "x")}, 10}, {list{of("far", 1, 255, "x")}, 10}, {list{of("far", 1, 254, "x")}, 10}, {list{of("far", 1, 1, "x")}, 10}, {list{of(".", 255, 255, "")}, 10}, {list{of("xexample", 255, 254, "")}, 10},
		{list{of("ns.example", 1, 0, "")}, 1}, {list{of("ns.example", 1, 3, "aaaa")}, 1}, {list{of("ns.example", 1, 253, "")}, 1}, {list{of("ns.example", 1, 256, "")}, 1}, {list{of("ns.example", 1, 65535, "")}, 1},
		// ANY.
		{list{of("ns.example", 255, 255, "x")}, 1}, {list{of("q.example", 1, 255, "x")}, 1}, {list{of("NS.Example", 255, 255, "")}, 0}, {list{of("Example", 255, 255, "")}, 0}, {list{of("q.example", 255, 255, "")}, 3}, {list{of("a.example", 255, 255, "")}, 3}, {list{of("q.alias.example", 255, 255, "")}, 3},
		{list{of("ns.example", 1, 255, "")}, 0}, {list{of("ns.example", 16, 255, "")}, 8}, {list{of("q.example", 1, 255, "")}, 8}, {list{of("a.example", 1, 255, "")}, 8}, {list{of("HOST.a.example", 16, 255, "")}, 0}, {list{of("alias.example", 1, 255, "")}, 8}, {list{of("alias.example", 5, 255, "")}, 0}, {list{of("example", 48, 255, "")}, 8}, {list{of("opt.example", 41, 255, "")}, 0}, {list{of("any.example", 255, 255, "")}, 0},
		// NONE.
		{list{of("q.example", 255, 254, "x")}, 1}, {list{of("q.example", 1, 254, "x")}, 1}, {list{of("Ns.example", 255, 254, "")}, 6}, {list{of("example", 255, 254, "")}, 6}, {list{of("q.example", 255, 254, "")}, 0}, {list{of("a.example", 255, 254, "")}, 0},
		{list{of("nS.example", 1, 254, "")}, 7}, {list{of("ns.example", 16, 254, "")}, 0}, {list{of("q.example", 1, 254, "")}, 0}, {list{of("a.example", 1, 254, "")}, 0}, {list{of("sub.example", 43, 254, "")}, 7},
		// In order: the first one that doesn't hold.
		{list{of("ns.example", 1, 255, ""), of("q.example", 255, 255, ""), of("far", 1, 1, "")}, 3}, {list{of("far", 1, 255, ""), of("q.example", 255, 255, "")}, 10}, {list{of("ns.example", 1, 254, ""), of("ns.example", 255, 254, "")}, 7}, {list{of("ns.example", 255, 254, ""), of("ns.example", 1, 254, "")}, 6}, {list{of("ns.example", 255, 255, ""), of("q.example", 255, 254, "")}, 0},
		// IN.
		{list{of("ns.example", 1, 1, "aaa")}, 1}, {list{of("ns.example", 1, 1, "")}, 1}, {list{of("q.example", 5, 1, "\x01")}, 1},
		{list{of("ns.example", 1, 1, "aaaa")}, 0}, {list{of("NS.example", 1, 1, "bbbb")}, 8}, {list{of("q.example", 1, 1, "aaaa")}, 8}, {list{of("a.example", 1, 1, "aaaa")}, 8}, {list{of("alias.example", 1, 1, "aaaa")}, 8},
		{list{of("any.example", 255, 1, "x")}, 0}, {list{of("any.example", 255, 1, "")}, 8}, {list{of("ns.example", 255, 1, "x")}, 8}, {list{of("opt.example", 41, 1, "")}, 0}, {list{of("many.example", 99, 1, "")}, 0}, {list{of("many.example", 98, 1, "")}, 8},
	} {
		if code := update.Prereq(z, x.l); code != x.code {
			t.Errorf("P17.2: %d: %d, not %d", i, code, x.code)
		}
	}
}

// TestSets (P17.2): sets that must be just so, in whatever order their records
// come, by Canon, behind all others.
func TestSets(t *testing.T) {
	z := common(t, ns("two.example", "A.b"), ns("two.example", "c"))
	type list = []api.Record
	b, c, x := of("host.a.example", 1, 1, "bbbb"), of("Host.A.example", 1, 1, "cccc"), of("host.a.example", 1, 1, "xxxx")
	text, a := of("HOST.a.example", 16, 1, "\x01t"), of("ns.example", 1, 1, "aaaa")
	for i, x := range []struct {
		l    list
		code int
	}{
		{list{b, c}, 0}, {list{c, b}, 0}, {list{c, b, c, c}, 0}, {list{b}, 8}, {list{c}, 8}, {list{b, b}, 8}, {list{b, x}, 8}, {list{b, c, x}, 8}, {list{x, b, c}, 8},
		{list{b, a, c, text}, 0}, {list{text}, 0}, {list{text, b}, 8}, {list{b, text, a}, 8}, {list{a, b, c, of("q.example", 1, 1, "aaaa")}, 8},
		{list{of("alias.example", 5, 1, to("HOST.A.example"))}, 0}, {list{of("two.example", 2, 1, to("a.B")), of("two.example", 2, 1, to("C")), of("two.example", 2, 1, to("A.b"))}, 0}, {list{of("two.example", 2, 1, to("a.B"))}, 8},
		{list{of("example", 6, 1, soaData("nS.example", 7))}, 0}, {list{of("example", 6, 1, soaData("ns.example", 8))}, 8},
		// Whatever else there is, counts first.
		{list{x, of("q.example", 255, 255, "")}, 3}, {list{x, of("far", 1, 1, "aaaa")}, 10}, {list{x, of("ns.example", 1, 1, "a")}, 1}, {list{x, of("ns.example", 1, 254, "")}, 7}, {list{b, of("ns.example", 255, 255, ""), c}, 0}, {list{b, of("ns.example", 255, 255, "")}, 8}, {list{x, of("ns.example", 1, 3, "")}, 1},
	} {
		if code := update.Prereq(z, x.l); code != x.code {
			t.Errorf("P17.2: %d: %d, not %d", i, code, x.code)
		}
	}
}

// TestManyWanted (P17.2): sets of as many records as a zone may have, and of
// more.
func TestManyWanted(t *testing.T) {
	z := zone.New(named("example"))
	var l []api.Record
	for i := range 2001 {
		r := of("example", 99, 1, string([]byte{byte(i >> 8), byte(i)}))
		z.Put(r)
		l = append(l, r)
	}
	again := of("far", 1, 255, "")
	for i, x := range []struct {
		l    []api.Record
		code int
	}{
		{l[:2000], 0}, {l[:1999], 8}, {l, 8}, {l[1:], 8}, {slices.Concat(l[:2000], l[:2000]), 0}, {slices.Concat(l, []api.Record{again}), 10}, {slices.Concat(l[:2000], []api.Record{of("q.example", 99, 1, "")}), 8},
	} {
		if code := update.Prereq(z, x.l); code != x.code {
			t.Errorf("P17.2: %d: %d, not %d", i, code, x.code)
		}
	}
}

// TestStrangeNames (P17.2, P17.3): names that no record can have are within
// the apex, or not, like others; nothing stands there, and nothing comes.
func TestStrangeNames(t *testing.T) {
	z := common(t)
	long := strings.Repeat("x", 1<<20)
	for _, above := range []api.Name{{""}, {"", ""}, {"", "ns"}, {"ns", ""}, {long}, {"ns", long}, {long, "ns"}, {strings.Repeat("x", 64)}, slices.Repeat(api.Name{"x"}, 200), slices.Repeat(api.Name{"x"}, 1<<17), slices.Repeat(api.Name{""}, 1<<17)} {
		n := slices.Concat(above, named("Example"))
		r := func(t, class uint16, data string) api.Record {
			return api.Record{Name: n, Type: t, Class: class, Data: []byte(data)}
		}
		for i, x := range []struct {
			r    api.Record
			code int
		}{{r(255, 255, ""), 3}, {r(1, 255, ""), 8}, {r(255, 254, ""), 0}, {r(1, 254, ""), 0}, {r(1, 1, "aaaa"), 8}, {r(1, 1, ""), 1}} {
			if code := update.Prereq(z, []api.Record{x.r}); code != x.code {
				t.Errorf("P17.2: %.40q: %d: %d, not %d", n, i, code, x.code)
			}
		}
		l := []api.Record{r(1, 1, "aaaa"), r(5, 1, to("x")), r(6, 1, soaData("x", 99)), r(43, 1, "12345"), r(255, 255, ""), r(6, 255, ""), r(1, 254, "aaaa"), r(2, 254, to("x"))}
		if code := update.Scan(z, 60, l); code != 0 {
			t.Errorf("P17.3: %.40q: %d", n, code)
		}
		applies(t, "P17.4", z, message(nil, l), 0, "")
		n = slices.Concat(above, named("net"))
		for _, x := range []api.Record{r(255, 255, ""), r(1, 254, ""), r(1, 1, "aaaa")} {
			if update.Prereq(z, []api.Record{x}) != 10 || update.Scan(z, 60, []api.Record{x}) != 10 {
				t.Errorf("P17.2: %.40q", n)
			}
		}
		m := message(nil, nil)
		m.Questions[0].Name = n
		applies(t, "P17.1", z, m, 9, "")
	}
}

// TestNoZone (DOC, 1): nothing is within the apex of what is no zone.
func TestNoZone(t *testing.T) {
	if code, l := update.Apply(nil, 60, message(nil, nil)); code != 9 || len(l) != 0 {
		t.Errorf("P17.1: %d, %v", code, l)
	}
	if code, _ := update.Apply(nil, 60, api.Message{}); code != 1 {
		t.Errorf("P17.1: %d", code)
	}
	l := []api.Record{of("ns.example", 1, 255, "")}
	if update.Prereq(nil, nil) != 0 || update.Scan(nil, 60, nil) != 0 || update.Prereq(nil, l) != 10 || update.Scan(nil, 60, l) != 10 {
		t.Error("P17.2, P17.3")
	}
}

// TestNotMade (DOC, 1): nothing is promised of a zone that New didn't make, but
// that calls end.
func TestNotMade(t *testing.T) {
	z := &zone.Zone{}
	for _, n := range []api.Name{nil, named("example")} {
		l := []api.Record{{Name: n, Type: 255, Class: 255}, {Name: n, Type: 1, Class: 1, Data: []byte("aaaa")}}
		update.Prereq(z, l)
		update.Scan(z, 60, l)
		m := message(nil, l)
		m.Questions[0].Name = nil
		if _, changes := update.Apply(z, 60, m); len(changes) != 0 {
			t.Errorf("P17.1: %v", changes)
		}
	}
}
