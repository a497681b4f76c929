package lookup_test

import (
	"slices"
	"strings"
	"testing"

	"signet/api"
	"signet/lookup"
	"signet/name"
	"signet/zone"
)

// encloses: what Closest must tell, with the letters of n.
func encloses(t *testing.T, z *zone.Zone, n, encloser, next string) {
	t.Helper()
	a, b := lookup.Closest(z, named(n))
	if name.Text(a) != encloser || name.Text(b) != next {
		t.Errorf("P16.2: %s: %s, %s, not %s, %s", n, name.Text(a), name.Text(b), encloser, next)
	}
}

// TestClosest (P16.2): the longest name that is there, and one label more.
func TestClosest(t *testing.T) {
	z := zoned(t, "Example", host("d.C.b.example", "1234"), host("*.w.example", "1234"), ns("cut.example", "net"), host("x.y.cut.example", "1234"), alias("alias.example", "b.example"))
	for _, r := range [][3]string{
		{"example", "example.", "example."}, {"EXAMPLE", "EXAMPLE.", "EXAMPLE."},
		{"b.example", "b.example.", "b.example."}, {"c.b.example", "c.b.example.", "c.b.example."}, {"D.c.B.Example", "D.c.B.Example.", "D.c.B.Example."},
		{"e.d.c.b.example", "d.c.b.example.", "e.d.c.b.example."}, {"g.f.e.d.c.b.example", "d.c.b.example.", "e.d.c.b.example."},
		{"X.C.B.Example", "C.B.Example.", "X.C.B.Example."}, {"y.x.c.b.example", "c.b.example.", "x.c.b.example."},
		{"q.example", "example.", "q.example."}, {"r.Q.Example", "Example.", "Q.Example."}, {"s.r.q.example", "example.", "q.example."},
		// A name that is there as labels of others isn't there.
		{"d.example", "example.", "d.example."}, {"d.c.example", "example.", "c.example."}, {"bb.example", "example.", "bb.example."}, {"b.b.example", "b.example.", "b.b.example."},
		// A * is a name like others; a cut, or an alias, says nothing here.
		{"q.w.example", "w.example.", "q.w.example."}, {"*.w.example", "*.w.example.", "*.w.example."}, {"q.*.w.example", "*.w.example.", "q.*.w.example."},
		{"q.y.cut.example", "y.cut.example.", "q.y.cut.example."}, {"q.cut.example", "cut.example.", "q.cut.example."}, {"q.alias.example", "alias.example.", "q.alias.example."},
	} {
		encloses(t, z, r[0], r[1], r[2])
	}
	if z.DropSet(named("d.c.b.example"), 1) != 1 {
		t.Fatal("P15.1: DropSet")
	}
	encloses(t, z, "d.c.b.example", "example.", "b.example.")
}

// TestClosestApex (P16.2): the apex counts, whether anything is there or not.
func TestClosestApex(t *testing.T) {
	for _, r := range [][4]string{
		{".", ".", ".", "."}, {".", "net", ".", "net."}, {".", "a.net", ".", "net."},
		{"example", "example", "example.", "example."}, {"Example", "B.EXAMPLE", "EXAMPLE.", "B.EXAMPLE."}, {"example", "a.b.example", "example.", "b.example."},
		{"c.b.a", "C.b.a", "C.b.a.", "C.b.a."}, {"c.b.a", "d.c.b.a", "c.b.a.", "d.c.b.a."}, {"c.b.a", "e.d.c.b.a", "c.b.a.", "d.c.b.a."},
	} {
		encloses(t, zoned(t, r[0]), r[1], r[2], r[3])
		encloses(t, zoned(t, r[0], host("there."+strings.TrimPrefix(r[0], "."), "1234")), r[1], r[2], r[3])
	}
}

// TestClosestBeside (P16.2): of a name that isn't within the apex, what the
// zone has at or above it; without that, the root.
func TestClosestBeside(t *testing.T) {
	z := zoned(t, "c.b.a", host("d.c.b.a", "1234"))
	for _, r := range [][3]string{
		{".", ".", "."}, {"a", "a.", "a."}, {"b.A", "b.A.", "b.A."}, {"x.b.a", "b.a.", "x.b.a."}, {"y.X.b.A", "b.A.", "X.b.A."}, {"x.a", "a.", "x.a."}, {"d.c.x.a", "a.", "x.a."},
		{"net", ".", "net."}, {"x.y.net", ".", "net."}, {"c.b.a.net", ".", "net."},
	} {
		encloses(t, z, r[0], r[1], r[2])
	}
	empty := zoned(t, "c.b.a")
	for _, r := range [][3]string{{".", ".", "."}, {"a", ".", "a."}, {"x.b.a", ".", "a."}, {"x.net", ".", "net."}} {
		encloses(t, empty, r[0], r[1], r[2])
	}
}

// TestStrangeNames (P16.1, P16.2): names that name.Check refuses are asked
// like others.
func TestStrangeNames(t *testing.T) {
	z := zoned(t, "example", rec("example", 6, soa), host("b.a.example", "1234"), host("*.w.example", "1234"), ns("cut.example", "net"))
	long := strings.Repeat("x", 1<<20)
	deep := slices.Repeat(api.Name{"x"}, 1<<18)
	bare := slices.Repeat(api.Name{""}, 1<<18)
	for _, r := range []struct {
		above api.Name
		apex  string
		want  string
	}{
		{nil, "example", "nothing||example.6||"}, {nil, "a.example", "nothing||example.6||"}, {nil, "w.example", "answer|@1||*.w.example."}, {nil, "cut.example", "referral||cut.example.2||"},
		{nil, "net", "nothing||||"}, {nil, ".", "nothing||||"},
	} {
		for _, above := range []api.Name{{""}, {"", ""}, {"", "q"}, {"q", ""}, {long}, {"q", long}, {long, "q"}, deep, bare, {"é"}, {"\x00"}, {"q.q"}} {
			n := slices.Concat(above, named(r.apex))
			f := lookup.Find(z, n, 1)
			if !slices.Equal(f.At, n) {
				t.Errorf("P16.1: At of %.40q: %.40q", n, f.At)
			}
			f.At = nil
			want := strings.Replace(r.want, "@", name.Text(name.Lower(n)), 1)
			if len(f.Answers) > 0 {
				want = strings.Replace(want, "1||", "1|||", 1)
			}
			if got := brief(f); got != want+"|." {
				t.Errorf("P16.1: %.40q: %.80s, not %.80s", n, got, want)
			}
			encloser, next := lookup.Closest(z, n)
			last := n[len(n)-len(encloser)-1:]
			if r.apex == "net" {
				if len(encloser) != 0 || !slices.Equal(next, named("net")) {
					t.Errorf("P16.2: %.40q: %.40q", n, next)
				}
			} else if !slices.Equal(encloser, named(r.apex)) || !slices.Equal(next, last) {
				t.Errorf("P16.2: %.40q: %.40q, %.40q", n, encloser, next)
			}
		}
	}
}

// TestStrangeApexes (P16.1): no record stands in a zone whose apex name.Check
// refuses.
func TestStrangeApexes(t *testing.T) {
	for _, apex := range []api.Name{{""}, {"a", ""}, {"", "a"}, slices.Repeat(api.Name{"x"}, 200), {strings.Repeat("x", 64)}} {
		z := zone.New(apex)
		for _, n := range []api.Name{nil, apex, append(api.Name{"q"}, apex...), {"net"}} {
			f := lookup.Find(z, n, 255)
			if f.Kind != api.LookNothing || len(f.Answers)+len(f.Auth)+len(f.Add)+len(f.Wild) != 0 || !slices.Equal(f.At, n) {
				t.Errorf("P16.1: %.40q: %v", n, f)
			}
			encloser, next := lookup.Closest(z, n)
			if len(encloser) > len(next) || len(next) > len(n) {
				t.Errorf("P16.2: %.40q: %.40q, %.40q", n, encloser, next)
			}
		}
	}
}

// TestNoZone (DOC, 1): without a zone there is nothing.
func TestNoZone(t *testing.T) {
	f := lookup.Find(nil, named("A.example"), 1)
	if brief(f) != "nothing|||||A.example." {
		t.Errorf("P16.1: %s", told(f))
	}
	encloses(t, nil, "A.example", ".", "example.")
	encloses(t, nil, ".", ".", ".")
}

// TestLongNames (P16.1, P16.2): names as long as may be, on which all labels
// but the first are there.
func TestLongNames(t *testing.T) {
	deep := slices.Repeat(api.Name{"x"}, 127)
	z := zone.New(nil)
	for _, n := range []api.Name{deep, append(api.Name{"*"}, deep[2:]...)} {
		if ok, e := z.Put(api.Record{Name: n, Type: 1, Class: 1, Data: []byte("1234")}); !ok || e != api.OK {
			t.Fatal(e)
		}
	}
	other := append(api.Name{"Q"}, deep[1:]...)
	f := lookup.Find(z, other, 1)
	if f.Kind != api.LookNothing || !slices.Equal(f.At, other) {
		t.Errorf("P16.1: %s", brief(f))
	}
	if encloser, next := lookup.Closest(z, other); !slices.Equal(encloser, deep[1:]) || !slices.Equal(next, other) {
		t.Errorf("P16.2: %q, %q", encloser, next)
	}
	other = append(api.Name{"P", "Q"}, deep[2:]...)
	f = lookup.Find(z, other, 1)
	if f.Kind != api.LookAnswer || len(f.Wild) != 1 || !slices.Equal(f.Answers[0].Name, name.Lower(other)) {
		t.Errorf("P16.1: %s", brief(f))
	}
	for count := range 128 {
		if encloser, next := lookup.Closest(z, deep[127-count:]); !slices.Equal(encloser, deep[127-count:]) || !slices.Equal(next, encloser) {
			t.Errorf("P16.2: %d: %q, %q", count, encloser, next)
		}
	}
	small := zone.New(deep)
	if encloser, next := lookup.Closest(small, deep); len(encloser) != 127 || len(next) != 127 {
		t.Errorf("P16.2: %q, %q", encloser, next)
	}
	if f := lookup.Find(small, deep, 1); f.Kind != api.LookNothing {
		t.Errorf("P16.1: %s", brief(f))
	}
	if _, e := small.Put(api.Record{Name: deep, Type: 6, Class: 1, Data: []byte(soa)}); e != api.OK {
		t.Fatal(e)
	}
	if f := lookup.Find(small, deep, 1); f.Kind != api.LookNone || len(f.Auth) != 1 {
		t.Errorf("P16.1: %s", brief(f))
	}
}
