package zone_test

import (
	"bytes"
	"math"
	"slices"
	"strings"
	"testing"

	"signet/api"
	"signet/name"
	"signet/rdata"
	"signet/zone"
)

// named: the name of a text.
func named(s string) api.Name {
	n, e := name.Parse(s)
	if e != api.OK {
		panic(s)
	}
	return n
}

// to: a name's bytes, as data have them.
func to(s string) []byte { return name.Wire(named(s)) }

// rec: a record of class IN.
func rec(n string, t uint16, ttl uint32, data string) api.Record {
	return api.Record{Name: named(n), Type: t, Class: 1, Ttl: ttl, Data: []byte(data)}
}

// ns: a record that leads to a name.
func ns(n, target string) api.Record { return rec(n, api.TypeNS, 5, string(to(target))) }

// host: a record with an address.
func host(n string, last byte) api.Record {
	return rec(n, api.TypeA, 5, string([]byte{10, 0, 0, last}))
}

// filled: a zone at example., with records that weren't there.
func filled(t *testing.T, l ...api.Record) *zone.Zone {
	t.Helper()
	z := zone.New(named("example"))
	for _, r := range l {
		puts(t, z, r, true, api.OK)
	}
	return z
}

// puts: what Put must answer, and how many records there are by it.
func puts(t *testing.T, z *zone.Zone, r api.Record, ok bool, e api.Errno) {
	t.Helper()
	before := z.Len()
	got, gotE := z.Put(r)
	if got != ok || gotE != e {
		t.Fatalf("P15.1: Put(%.200q): %v, %v, not %v, %v", r.Name, got, gotE, ok, e)
	}
	if !ok && z.Len() != before {
		t.Fatalf("P15.1: Put(%.200q): %d records, not %d", r.Name, z.Len(), before)
	}
}

// told: a record as text.
func told(r api.Record) string {
	var b strings.Builder
	b.WriteString(name.Text(r.Name))
	for _, x := range []uint32{uint32(r.Type), uint32(r.Class), r.Ttl} {
		b.WriteByte(' ')
		b.WriteString(digits(x))
	}
	b.WriteByte(' ')
	b.Write(r.Data)
	return b.String()
}

func digits(x uint32) string {
	if x < 10 {
		return string(rune('0' + x))
	}
	return digits(x/10) + digits(x%10)
}

// all: a zone's records, as texts.
func all(z *zone.Zone) []string {
	var out []string
	for _, r := range z.Records() {
		out = append(out, told(r))
	}
	return out
}

// holds: z has just these records, in this order.
func holds(t *testing.T, promise string, z *zone.Zone, want ...api.Record) {
	t.Helper()
	var texts []string
	for _, r := range want {
		texts = append(texts, told(r))
	}
	if got := all(z); !slices.Equal(got, texts) || z.Len() != len(want) {
		t.Fatalf("%s: %d records:\n%q, not\n%q", promise, z.Len(), got, texts)
	}
}

// texts: names as texts.
func texts(l []api.Name) []string {
	var out []string
	for _, n := range l {
		out = append(out, name.Text(n))
	}
	return out
}

// sized: a name of size bytes on the wire (not 2), its last label example.
func sized(size int) api.Name {
	n := api.Name{"example"}
	for left := size - 9; left > 0; {
		take := min(left, 64)
		if left-take == 1 {
			take--
		}
		n = append(api.Name{strings.Repeat("l", take-1)}, n...)
		left -= take
	}
	return n
}

// TestNumbers (P15.1): the chapter's numbers of the errors, and the limit.
func TestNumbers(t *testing.T) {
	z := zone.New(named("example"))
	if _, e := z.Put(host("net", 1)); int(e) != 110 {
		t.Errorf("P15.1: %d", int(e))
	}
	for i := range 2000 {
		puts(t, z, rec("example", 99, 1, string([]byte{byte(i >> 8), byte(i)})), true, api.OK)
	}
	if _, e := z.Put(host("example", 1)); int(e) != 111 || z.Len() != 2000 {
		t.Errorf("P15.1: %d, %d records", int(e), z.Len())
	}
}

// TestEmpty (P15.2): a zone without records.
func TestEmpty(t *testing.T) {
	for _, apex := range []api.Name{nil, {}, named("example"), named("A.Example")} {
		z := zone.New(apex)
		for _, z := range []*zone.Zone{z, z.Copy()} {
			holds(t, "P15.2", z)
			for _, n := range []api.Name{nil, apex, named("x.a.example"), {""}} {
				s, ok := z.Set(n, 1)
				if ok || len(s.Name)+len(s.Data) != 0 || s.Ttl != 0 || s.Type != 0 || z.Has(n) || len(z.Types(n)) != 0 || z.DropSet(n, 255)+z.DropSet(n, 1) != 0 {
					t.Errorf("P15.2: %q", n)
				}
				if cut, ok := z.Cut(n); ok || len(cut) != 0 {
					t.Errorf("P15.3: %q: %q", n, cut)
				}
			}
			if len(z.Names()) != 0 || z.Drop(host("example", 1)) {
				t.Error("P15.2")
			}
		}
	}
}

// TestPutNames (P15.1): which names are the zone's.
func TestPutNames(t *testing.T) {
	rows := []struct {
		apex, n api.Name
		ok      bool
	}{
		{named("example"), named("example"), true},
		{named("example"), named("EXAMPLE"), true},
		{named("eXample"), named("Example"), true},
		{named("example"), named("a.example"), true},
		{named("example"), named("c.b.a.example"), true},
		{named("example"), named("*.example"), true},
		{named("example"), named(`\.\000\255.example`), true},
		{named("example"), nil, false},
		{named("example"), api.Name{}, false},
		{named("example"), named("net"), false},
		{named("example"), named("example.net"), false},
		{named("example"), named("xexample"), false},
		{named("example"), named("xample"), false},
		{named("example"), api.Name{"a.example"}, false},
		{named("a.example"), named("example"), false},
		{named("a.example"), named("b.example"), false},
		{named("a.example"), named("A.example"), true},
		{named("a.example"), named("b.A.example"), true},
		{named("a.example"), named("b.b.example"), false},
		{nil, nil, true},
		{nil, named("example"), true},
		{api.Name{}, named("a.example"), true},
		{named("example"), api.Name{"", "example"}, false},
		{named("example"), api.Name{"a", "", "example"}, false},
		{named("example"), api.Name{"example", ""}, false},
		{nil, api.Name{""}, false},
		{api.Name{""}, api.Name{""}, false},
		{api.Name{""}, api.Name{"a", ""}, false},
		{api.Name{""}, nil, false},
		{named("example"), api.Name{strings.Repeat("l", 63), "example"}, true},
		{named("example"), api.Name{strings.Repeat("l", 64), "example"}, false},
		{named("example"), api.Name{strings.Repeat("l", 256), "example"}, false},
		{named("example"), sized(254), true},
		{named("example"), sized(255), true},
		{named("example"), sized(256), false},
		{named("example"), sized(70000), false},
		{sized(256), sized(256), false},
		{api.Name{strings.Repeat("l", 64)}, api.Name{strings.Repeat("l", 64)}, false},
		{named("example"), append(slices.Repeat(api.Name{"a"}, 123), "example"), true},
		{named("example"), append(slices.Repeat(api.Name{"a"}, 124), "example"), false},
		{nil, slices.Repeat(api.Name{"a"}, 127), true},
		{nil, slices.Repeat(api.Name{"a"}, 128), false},
	}
	for i, r := range rows {
		z := zone.New(r.apex)
		x := api.Record{Name: r.n, Type: 1, Class: 1, Ttl: 9, Data: []byte{1, 2, 3, 4}}
		ok, e := z.Put(x)
		if ok != r.ok || (e == api.OK) != r.ok || !ok && e != api.ErrZoneName {
			t.Errorf("P15.1: row %d: %v, %v", i, ok, e)
		}
		if !r.ok {
			holds(t, "P15.1", z)
			continue
		}
		x.Name = name.Lower(x.Name)
		holds(t, "P15.1", z, x)
		if ok, e := z.Put(x); ok || e != api.OK {
			t.Errorf("P15.1: row %d again: %v, %v", i, ok, e)
		}
	}
}

// TestPutClass (P15.1): each class but IN.
func TestPutClass(t *testing.T) {
	z := filled(t, host("example", 1))
	for class := range 1 << 16 {
		if class == api.ClassIN {
			continue
		}
		for _, last := range []byte{1, 2} {
			r := host("example", last)
			r.Class = uint16(class)
			if ok, e := z.Put(r); ok || e != api.ErrData {
				t.Fatalf("P15.1: class %d: %v, %v", class, ok, e)
			}
		}
	}
	holds(t, "P15.1", z, host("example", 1))
}

// TestPutData (P15.1): which data may be, at the limits too.
func TestPutData(t *testing.T) {
	long := strings.Repeat("d", api.MaxData)
	soa := string(rdata.SoaBytes(api.Soa{Main: named("Ns.x"), Box: named("Box.x")}))
	sig := string(rdata.SigBytes(api.Sig{Type: 1, Signer: named("Example"), Signature: []byte("s")}))
	rows := []struct {
		t    uint16
		data string
		ok   bool
	}{
		{1, "abcd", true}, {1, "", false}, {1, "abc", false}, {1, "abcde", false},
		{28, long[:16], true}, {28, long[:15], false}, {28, long[:17], false},
		{2, "\x01A\x00", true}, {2, "\x00", true}, {2, "", false}, {2, "\x01A", false}, {2, "\x01A\x00\x00", false},
		{5, "\x01A\x00", true}, {5, "\x40", false},
		{15, "\x00\x01\x01A\x00", true}, {15, "\x00\x01", false}, {15, "\x00\x01A\x00", false},
		{6, soa, true}, {6, soa[1:], false}, {6, soa + "x", false},
		{16, "\x01a", true}, {16, "\x00", true}, {16, "", false}, {16, "\x02a", false},
		{43, "12345", true}, {43, "1234", false},
		{46, sig, true}, {46, sig[:18], false},
		{48, "1234", true}, {48, "123", false},
		{50, "1234\x00\x01n", true}, {50, "1234\x00\x00", false},
		{51, "1234\x00", true}, {51, "1234\x01", false}, {51, "1234", false},
		{41, "", true}, {255, "", true}, {255, "any", true}, {0, "", true}, {0, long, true},
		{99, long, true}, {99, long + "d", false}, {65535, long, true}, {65535, long + "d", false}, {99, long + long, false},
	}
	for i, r := range rows {
		z := zone.New(named("example"))
		x := rec("a.example", r.t, 3, r.data)
		ok, e := z.Put(x)
		if ok != r.ok || (e == api.OK) != r.ok || !ok && e != api.ErrData {
			t.Errorf("P15.1: row %d: %v, %v", i, ok, e)
		}
		if !r.ok {
			holds(t, "P15.1", z)
			if z.Drop(x) {
				t.Errorf("P15.1: row %d: Drop of data that may not be", i)
			}
			continue
		}
		holds(t, "P15.1", z, x)
		if !z.Drop(x) || z.Len() != 0 || z.Has(x.Name) {
			t.Errorf("P15.1: row %d: Drop", i)
		}
	}
}

// TestFirstError (P15.1): names ahead of data, both ahead of all else, also
// where the zone is full.
func TestFirstError(t *testing.T) {
	full := zone.New(named("example"))
	for i := range api.MaxRecords {
		puts(t, full, rec("example", 99, 1, string([]byte{byte(i >> 8), byte(i)})), true, api.OK)
	}
	for _, z := range []*zone.Zone{full, zone.New(named("example"))} {
		before := all(z)
		bad := host("net", 1)
		bad.Class = 255
		puts(t, z, bad, false, api.ErrZoneName)
		puts(t, z, rec("net", 1, 0, "abc"), false, api.ErrZoneName)
		puts(t, z, api.Record{Name: api.Name{"", "example"}, Type: 1}, false, api.ErrZoneName)
		puts(t, z, rec("example", 1, 0, "abc"), false, api.ErrData)
		bad.Name = named("example")
		puts(t, z, bad, false, api.ErrData)
		there := rec("example", 99, 1, "\x00\x00")
		there.Class = 254
		puts(t, z, there, false, api.ErrData)
		if !slices.Equal(all(z), before) {
			t.Error("P15.1: a Put that was refused changed something")
		}
	}
}

// TestFull (P15.1): at the limit what is there may still be put, and a Drop
// makes room.
func TestFull(t *testing.T) {
	z := zone.New(named("example"))
	owner := func(i int) string { return "h" + digits(uint32(i)) + ".example" }
	for i := range api.MaxRecords - 1 {
		puts(t, z, host(owner(i/3), byte(i%3)), true, api.OK)
	}
	copied := z.Copy()
	puts(t, z, host("last.example", 1), true, api.OK)
	before := all(z)
	for _, r := range []api.Record{host("last.example", 2), host("new.example", 1), host("x.last.example", 1), rec("last.example", 99, 5, ""), ns("example", "a")} {
		puts(t, z, r, false, api.ErrZoneFull)
		if z.Has(named("new.example")) || z.Has(named("x.last.example")) {
			t.Fatal("P15.1: what was refused is there")
		}
	}
	puts(t, z, host("LAST.example", 1), false, api.OK)
	if !slices.Equal(all(z), before) {
		t.Fatal("P15.1: a Put that was refused changed something")
	}
	other := host(owner(0), 1)
	other.Ttl = 6
	puts(t, z, other, true, api.OK)
	if s, _ := z.Set(other.Name, 1); s.Ttl != 6 || len(s.Data) != 3 || z.Len() != api.MaxRecords {
		t.Errorf("P15.1: %v, %d records", s, z.Len())
	}
	if !z.Drop(host(owner(7), 2)) || z.Len() != api.MaxRecords-1 {
		t.Error("P15.1: Drop")
	}
	puts(t, z, host("new.example", 1), true, api.OK)
	puts(t, z, host("new.example", 2), false, api.ErrZoneFull)
	if z.DropSet(named(owner(0)), 1) != 3 {
		t.Error("P15.1: DropSet")
	}
	for last := range byte(3) {
		puts(t, z, host("again.example", last), true, api.OK)
	}
	puts(t, z, host("again.example", 3), false, api.ErrZoneFull)
	puts(t, copied, host("again.example", 1), true, api.OK)
	puts(t, copied, host("again.example", 2), false, api.ErrZoneFull)
}

// TestCanonOnce (P15.1, P15.4): data are the same by Canon: capitals of some
// types' names say nothing, all other bytes count. What stood stays.
func TestCanonOnce(t *testing.T) {
	soa := func(main, box string) string {
		return string(rdata.SoaBytes(api.Soa{Main: named(main), Box: named(box), Serial: 'A'}))
	}
	sig := func(signer, s string) string {
		return string(rdata.SigBytes(api.Sig{Type: 'A', Signer: named(signer), Signature: []byte(s)}))
	}
	rows := []struct {
		t            uint16
		first, other string
		same         bool
	}{
		{2, "\x02Ns\x01X\x00", "\x02nS\x01x\x00", true},
		{2, "\x02ns\x00", "\x02nt\x00", false},
		{5, "\x01A\x00", "\x01a\x00", true},
		{15, "AB\x01A\x00", "AB\x01a\x00", true},
		{15, "AB\x01a\x00", "Ab\x01a\x00", false},
		{6, soa("A.x", "b"), soa("a.X", "B"), true},
		{6, soa("A.x", "b"), soa("a.x", "c"), false},
		{46, sig("A", "s"), sig("a", "s"), true},
		{46, sig("A", "s"), sig("A", "S"), false},
		{16, "\x01A", "\x01a", false},
		{1, "ABCD", "abcd", false},
		{28, strings.Repeat("A", 16), strings.Repeat("a", 16), false},
		{43, "12345A", "12345a", false},
		{48, "1234A", "1234a", false},
		{50, "1234\x00\x01A", "1234\x00\x01a", false},
		{51, "1234\x01A", "1234\x01a", false},
		{99, "A", "a", false}, {99, "", "\x00", false}, {255, "A", "a", false}, {41, "\x01A\x00", "\x01a\x00", false},
	}
	for i, r := range rows {
		x, y := rec("a.example", r.t, 5, r.first), rec("A.example", r.t, 5, r.other)
		for _, order := range [][2]api.Record{{x, y}, {y, x}} {
			z := filled(t, order[0])
			puts(t, z, order[0], false, api.OK)
			puts(t, z, order[1], !r.same, api.OK)
			s, _ := z.Set(named("a.example"), r.t)
			if z.Len() != len(s.Data) || (len(s.Data) == 1) != r.same || r.same && !bytes.Equal(s.Data[0], order[0].Data) {
				t.Errorf("P15.1: row %d: %q", i, s.Data)
			}
			later := order[1]
			later.Ttl = 6
			puts(t, z, later, true, api.OK)
			puts(t, z, later, false, api.OK)
			s, _ = z.Set(named("a.example"), r.t)
			if s.Ttl != 6 || r.same && !bytes.Equal(s.Data[0], order[0].Data) {
				t.Errorf("P15.1: row %d: %q at %d", i, s.Data, s.Ttl)
			}
			before := z.Len()
			if !z.Drop(order[1]) || z.Len() != before-1 || z.Drop(order[1]) {
				t.Errorf("P15.1: row %d: Drop", i)
			}
			if z.Drop(order[0]) == r.same || z.Len() != 0 {
				t.Errorf("P15.1: row %d: Drop of the other", i)
			}
			puts(t, z, order[1], true, api.OK)
			holds(t, "P15.1", z, rec("a.example", r.t, 5, string(order[1].Data)))
		}
	}
}

// TestTtl (P15.1): a Put's time to live holds for all of its owner and type,
// and for nothing else.
func TestTtl(t *testing.T) {
	with := func(r api.Record, ttl uint32) api.Record {
		r.Ttl = ttl
		return r
	}
	one, two, three := host("a.example", 1), host("a.example", 2), host("a.example", 3)
	text := rec("a.example", 16, 5, "\x00")
	near := []api.Record{host("example", 1), host("b.a.example", 1), host("b.example", 1)}
	for _, ttl := range []uint32{0, 1, 4, 6, 1 << 31, math.MaxUint32 - 1, math.MaxUint32} {
		z := filled(t, one, two, text, near[0], near[1], near[2])
		puts(t, z, with(three, ttl), true, api.OK)
		want := []api.Record{near[0], with(one, ttl), with(two, ttl), with(three, ttl), text, near[1], near[2]}
		holds(t, "P15.1", z, want...)
		puts(t, z, with(one, ttl), false, api.OK)
		puts(t, z, with(one, 5), true, api.OK)
		want[1], want[2], want[3] = one, two, three
		holds(t, "P15.1", z, want...)
		puts(t, z, with(text, ttl), true, api.OK)
		want[4] = with(text, ttl)
		holds(t, "P15.1", z, want...)
	}
	z := filled(t, with(one, 0))
	puts(t, z, with(one, 0), false, api.OK)
	if !z.Drop(one) {
		t.Error("P15.1: Drop")
	}
	puts(t, z, two, true, api.OK)
	holds(t, "P15.1", z, two)
}

// TestDrop (P15.1): which record goes; class and time to live say nothing.
func TestDrop(t *testing.T) {
	start := []api.Record{host("example", 1), host("a.example", 1), host("a.example", 2), rec("a.example", 99, 5, "\x0a\x00\x00\x01"), host("b.a.example", 1)}
	z := filled(t, start...)
	for _, r := range []api.Record{
		host("a.example", 3), host("b.example", 1), host("c.b.a.example", 1), host("net", 1), host(".", 1),
		rec("a.example", 1, 5, "\x0a\x00\x00"), rec("a.example", 1, 5, ""), rec("a.example", 98, 5, "\x0a\x00\x00\x01"), rec("a.example", 255, 5, "\x0a\x00\x00\x01"), rec("a.example", 99, 5, ""),
		{Name: api.Name{"", "a", "example"}, Type: 1, Class: 1, Data: []byte{10, 0, 0, 1}},
		{Name: api.Name{"a.example"}, Type: 1, Class: 1, Data: []byte{10, 0, 0, 1}},
		{Name: api.Name{"a", "example", ""}, Type: 1, Class: 1, Data: []byte{10, 0, 0, 1}},
	} {
		if z.Drop(r) {
			t.Errorf("P15.1: Drop(%q)", told(r))
		}
		holds(t, "P15.1", z, start...)
	}
	odd := host("A.EXAMPLE", 1)
	odd.Class, odd.Ttl = 254, 77
	if !z.Drop(odd) {
		t.Error("P15.1: Drop")
	}
	holds(t, "P15.1", z, start[0], start[2], start[3], start[4])
	odd = host("a.example", 2)
	odd.Class, odd.Ttl = 0, 0
	if !z.Drop(odd) || z.Drop(odd) {
		t.Error("P15.1: Drop")
	}
	holds(t, "P15.1", z, start[0], start[3], start[4])
	if _, ok := z.Set(named("a.example"), 1); ok || !slices.Equal(z.Types(named("a.example")), []uint16{99}) {
		t.Error("P15.2: a set without records")
	}
}

// TestDropSet (P15.1): a type's records of one name, or all of it.
func TestDropSet(t *testing.T) {
	start := []api.Record{host("example", 1), host("a.example", 1), host("a.example", 2), rec("a.example", 99, 5, ""), rec("a.example", 99, 5, "x"), rec("a.example", 99, 5, "y"), rec("a.example", 255, 5, "any"), host("b.a.example", 1), host("b.example", 1)}
	rows := []struct {
		n    string
		t    uint16
		gone []int
	}{
		{"a.example", 1, []int{1, 2}}, {"A.Example", 99, []int{3, 4, 5}}, {"a.example", 255, []int{1, 2, 3, 4, 5, 6}}, {"a.EXAMPLE", 255, []int{1, 2, 3, 4, 5, 6}},
		{"a.example", 2, nil}, {"a.example", 0, nil}, {"example", 255, []int{0}}, {"example", 1, []int{0}}, {"b.a.example", 255, []int{7}}, {"b.a.example", 1, []int{7}},
		{"c.example", 255, nil}, {"c.b.a.example", 255, nil}, {"net", 255, nil}, {".", 255, nil}, {".", 1, nil},
	}
	for i, r := range rows {
		z := filled(t, start...)
		if got := z.DropSet(named(r.n), r.t); got != len(r.gone) {
			t.Errorf("P15.1: row %d: %d", i, got)
		}
		var want []api.Record
		for k, x := range start {
			if !slices.Contains(r.gone, k) {
				want = append(want, x)
			}
		}
		holds(t, "P15.1", z, want...)
		if got := z.DropSet(named(r.n), r.t); got != 0 {
			t.Errorf("P15.1: row %d again: %d", i, got)
		}
		holds(t, "P15.1", z, want...)
		for _, k := range r.gone {
			puts(t, z, start[k], true, api.OK)
		}
		holds(t, "P15.1", z, start...)
	}
	z := filled(t, start...)
	for _, n := range []api.Name{{""}, {"", "a", "example"}, {"a.example"}, {"a", "example", ""}} {
		if z.DropSet(n, 255)+z.DropSet(n, 1) != 0 {
			t.Errorf("P15.1: DropSet(%q)", n)
		}
	}
	holds(t, "P15.1", z, start...)
}

// TestSetOrder (P15.2): data in order of Canon's bytes, not of those that
// stand, nor of those that came first.
func TestSetOrder(t *testing.T) {
	rows := []struct {
		t    uint16
		data []string // in order
	}{
		{2, []string{"\x00", "\x01A\x00", "\x01b\x00", "\x01C\x00", "\x02Aa\x00", "\x02aB\x00"}},
		{15, []string{"\x00\x01\x01z\x00", "\x00\x02\x01A\x00", "\x00\x02\x01b\x00", "\xff\x00\x00"}},
		{99, []string{"", "\x00", "\x00\x00", "\x01", "A", "AZ", "B", "a", "aa", "\x7f", "\x80", "\xff", "\xff\xff"}},
		{16, []string{"\x00", "\x00\x00", "\x01A", "\x01a", "\x02AA"}},
	}
	for _, r := range rows {
		for turn := range r.data {
			z := zone.New(named("example"))
			for k := range r.data {
				// Each turn another one comes first; odd ones go the other way round.
				at := (turn + k) % len(r.data)
				if turn%2 == 1 {
					at = len(r.data) - 1 - at
				}
				puts(t, z, rec("Q.Example", r.t, 7, r.data[at]), true, api.OK)
			}
			s, ok := z.Set(named("q.EXAMPLE"), r.t)
			var got []string
			for _, d := range s.Data {
				got = append(got, string(d))
			}
			if !ok || s.Type != r.t || s.Ttl != 7 || !slices.Equal(s.Name, api.Name{"q", "example"}) || !slices.Equal(got, r.data) {
				t.Errorf("P15.2: type %d, turn %d: %q, %v", r.t, turn, got, s)
			}
		}
	}
	z := filled(t, host("a.example", 1))
	for _, x := range []struct {
		n string
		t uint16
	}{{"a.example", 2}, {"a.example", 255}, {"a.example", 0}, {"b.example", 1}, {"example", 1}, {"b.a.example", 1}, {".", 1}, {"net", 1}} {
		if s, ok := z.Set(named(x.n), x.t); ok || len(s.Name)+len(s.Data) != 0 || s.Type != 0 || s.Ttl != 0 {
			t.Errorf("P15.2: Set(%s, %d): %v", x.n, x.t, s)
		}
	}
}

// TestTypes (P15.2): rising as numbers, each once.
func TestTypes(t *testing.T) {
	z := zone.New(named("example"))
	want := []uint16{0, 3, 10, 99, 254, 255, 256, 257, 1000, 32767, 32768, 65534, 65535}
	for i := range want {
		for _, data := range []string{"", "x"} {
			puts(t, z, rec("a.example", want[i*5%len(want)], 5, data), true, api.OK)
		}
	}
	if got := z.Types(named("A.example")); !slices.Equal(got, want) {
		t.Errorf("P15.2: %v", got)
	}
	var types []uint16
	for _, r := range z.Records() {
		types = append(types, r.Type)
	}
	if !slices.IsSorted(types) || len(types) != 2*len(want) {
		t.Errorf("P15.2: %v", types)
	}
	for _, s := range []string{"example", "b.a.example", "net", "."} {
		if got := z.Types(named(s)); len(got) != 0 {
			t.Errorf("P15.2: %s: %v", s, got)
		}
	}
}

// TestHas (P15.2): at a name, or below it, also above the apex; no more when
// the last record is gone.
func TestHas(t *testing.T) {
	rows := []struct {
		n                    string
		start, later, behind bool // with both records, without the deeper one, without either
	}{
		{"d.c.b.example", true, false, false},
		{"D.C.B.EXAMPLE", true, false, false},
		{"c.b.example", true, false, false},
		{"b.example", true, true, false},
		{"example", true, true, false},
		{".", true, true, false},
		{"e.d.c.b.example", false, false, false},
		{"x.c.b.example", false, false, false},
		{"d.b.example", false, false, false},
		{"c.example", false, false, false},
		{"bb.example", false, false, false},
		{"net", false, false, false},
		{"c.b.net", false, false, false},
	}
	for _, set := range []bool{false, true} {
		z := filled(t, host("d.c.B.example", 1), host("b.example", 1))
		check := func(when string, want func(i int) bool) {
			t.Helper()
			for i, r := range rows {
				if z.Has(named(r.n)) != want(i) {
					t.Errorf("P15.2: Has(%s), %s: %v", r.n, when, !want(i))
				}
			}
		}
		drop := func(n string) bool {
			if set {
				return z.DropSet(named(n), api.TypeANY) == 1
			}
			return z.Drop(host(n, 1))
		}
		check("both", func(i int) bool { return rows[i].start })
		c := z.Copy()
		if !drop("D.c.b.example") {
			t.Error("P15.1: Drop")
		}
		check("one", func(i int) bool { return rows[i].later })
		if !drop("b.Example") {
			t.Error("P15.1: Drop")
		}
		check("none", func(i int) bool { return rows[i].behind })
		z = c
		if !drop("b.example") {
			t.Error("P15.1: Drop")
		}
		check("the deeper one", func(i int) bool { return rows[i].start })
	}
}

// TestNames (P15.2): RFC 4034's order of names, each once, in small letters.
func TestNames(t *testing.T) {
	want := []string{"example.", "a.example.", "yljkjljk.a.example.", "z.a.example.", "zabc.a.example.", `a\000.example.`, "aa.example.", "b.example.",
		"z.example.", `\001.z.example.`, "*.z.example.", `\200.z.example.`, `\201\001.example.`, `\255.example.`, `a.b.\255.example.`}
	z := zone.New(named("Example"))
	for i := range want {
		s := want[i*7%len(want)]
		for _, r := range []api.Record{host(s, 1), host(s, 2), rec(s, 99, 1, "")} {
			r.Name[len(r.Name)-1] = "eXAMPLE"
			puts(t, z, r, true, api.OK)
		}
	}
	if got := texts(z.Names()); !slices.Equal(got, want) {
		t.Errorf("P15.2: %q", got)
	}
	var owners []string
	for i, r := range z.Records() {
		if i%3 == 0 {
			owners = append(owners, name.Text(r.Name))
		}
	}
	if !slices.Equal(owners, want) || z.Len() != 3*len(want) {
		t.Errorf("P15.2: %q", owners)
	}
	root := zone.New(nil)
	for _, s := range []string{"b", ".", "a.b"} {
		puts(t, root, host(s, 1), true, api.OK)
	}
	if got := texts(root.Names()); !slices.Equal(got, []string{".", "b.", "a.b."}) {
		t.Errorf("P15.2: %q", got)
	}
}

// TestRecords (P15.2): by names, types, Canon, each whole.
func TestRecords(t *testing.T) {
	want := []api.Record{
		rec("example", 2, 60, "\x01B\x00"), rec("example", 2, 60, "\x01c\x00"),
		rec("example", 16, 7, "\x01z"),
		rec("b.a.example", 1, 0, "1234"), rec("b.a.example", 1, 0, "1235"), rec("b.a.example", 99, math.MaxUint32, ""), rec("b.a.example", 65535, 1, "x"),
		rec("b.example", 1, 3, "0000"),
	}
	z := zone.New(named("example"))
	for i := range want {
		puts(t, z, want[i*5%len(want)], true, api.OK)
	}
	holds(t, "P15.2", z, want...)
	holds(t, "P15.2", z.Copy(), want...)
}

// cuts: what Cut must tell: a name, or none by an empty text.
func cuts(t *testing.T, z *zone.Zone, n api.Name, want string) {
	t.Helper()
	cut, ok := z.Cut(n)
	if ok != (want != "") || ok && name.Text(cut) != want || !ok && len(cut) != 0 {
		t.Errorf("P15.3: Cut(%.100q): %q, %v, not %q", n, cut, ok, want)
	}
}

// TestCut (P15.3): the topmost one below the apex.
func TestCut(t *testing.T) {
	z := filled(t, ns("example", "a"), ns("A.Example", "b"), ns("c.b.a.example", "b"), ns("f.e.d.example", "b"), ns("g.f.e.d.example", "b"),
		host("h.example", 1), rec("i.example", api.TypeDS, 5, "12345"), rec("j.example", api.TypeCNAME, 5, "\x00"), ns("*.k.example", "b"))
	rows := [][2]string{
		{"example", ""}, {".", ""}, {"net", ""}, {"a.net", ""}, {"a", ""},
		{"a.example", "a.example."}, {"A.EXAMPLE", "a.example."}, {"b.a.example", "a.example."}, {"X.B.A.EXAMPLE", "a.example."},
		{"c.b.a.example", "a.example."}, {"d.c.b.a.example", "a.example."},
		{"d.example", ""}, {"e.d.example", ""}, {"x.e.d.example", ""}, {"F.e.d.example", "f.e.d.example."}, {"x.G.f.E.d.example", "f.e.d.example."},
		{"h.example", ""}, {"x.h.example", ""}, {"i.example", ""}, {"x.i.example", ""}, {"j.example", ""}, {"aa.example", ""}, {"a.h.example", ""},
		{"k.example", ""}, {"l.k.example", ""}, {"*.k.example", "*.k.example."}, {"x.*.k.example", "*.k.example."},
	}
	for _, r := range rows {
		cuts(t, z, named(r[0]), r[1])
		cuts(t, z.Copy(), named(r[0]), r[1])
	}
	// A name that may not be a record's still has names above it.
	cuts(t, z, append(slices.Repeat(api.Name{"x", ""}, 1000), "a", "example"), "a.example.")
	cuts(t, z, api.Name{strings.Repeat("x", 300), "A", "Example"}, "a.example.")
	cuts(t, z, api.Name{"a.example"}, "")
	cuts(t, z, api.Name{"a", "example", ""}, "")
	cuts(t, z, api.Name{"a", "", "example"}, "")
	if !z.Drop(ns("a.example", "b")) {
		t.Error("P15.1: Drop")
	}
	cuts(t, z, named("a.example"), "")
	cuts(t, z, named("d.c.b.a.example"), "c.b.a.example.")
	if z.DropSet(named("c.b.a.example"), api.TypeNS) != 1 {
		t.Error("P15.1: DropSet")
	}
	cuts(t, z, named("d.c.b.a.example"), "")
	puts(t, z, ns("b.a.example", "b"), true, api.OK)
	cuts(t, z, named("d.c.b.a.example"), "b.a.example.")
}

// TestCutApex (P15.3): the apex is none, however deep or high it is.
func TestCutApex(t *testing.T) {
	for _, apex := range []string{".", "a", "b.a", "c.b.a"} {
		z := zone.New(named(apex))
		puts(t, z, ns(apex, "x"), true, api.OK)
		below := "q." + strings.TrimPrefix(apex, ".")
		cuts(t, z, named(apex), "")
		cuts(t, z, named("r."+below), "")
		puts(t, z, ns(below, "x"), true, api.OK)
		cuts(t, z, named(apex), "")
		cuts(t, z, named(below), name.Text(named(below)))
		cuts(t, z, named("r."+below), name.Text(named(below)))
	}
}

// TestCopy (P15.2): neither feels what is done to the other.
func TestCopy(t *testing.T) {
	start := []api.Record{ns("example", "a"), host("b.a.example", 1), host("b.a.example", 2), rec("b.a.example", 99, 5, "x")}
	change := func(z *zone.Zone) {
		later := host("b.a.example", 3)
		later.Ttl = 9
		puts(t, z, later, true, api.OK)
		z.Drop(host("b.a.example", 1))
		z.DropSet(named("b.a.example"), 99)
		puts(t, z, ns("a.example", "x"), true, api.OK)
		puts(t, z, host("c.b.a.example", 1), true, api.OK)
		z.DropSet(named("example"), 255)
	}
	for turn := range 2 {
		pair := []*zone.Zone{filled(t, start...)}
		pair = append(pair, pair[0].Copy())
		change(pair[turn])
		still := pair[1-turn]
		holds(t, "P15.2", still, start...)
		cuts(t, still, named("c.b.a.example"), "")
		if still.Has(named("c.b.a.example")) || len(pair[turn].Records()) != 4 || pair[turn].Len() != 4 {
			t.Error("P15.2: Copy")
		}
		puts(t, still, host("net", 1), false, api.ErrZoneName)
		for _, r := range pair[turn].Records() {
			pair[turn].Drop(r)
		}
		holds(t, "P15.2", pair[turn])
		holds(t, "P15.2", still, start...)
	}
	z := filled(t, start...)
	z.Copy().DropSet(named("b.a.example"), 255)
	if !z.Has(named("a.example")) {
		t.Error("P15.2: Copy")
	}
}

// TestStrangeNames (P15.1, P15.2): names that no record has, but whose bytes
// or texts look like those of one that has: none is taken for it.
func TestStrangeNames(t *testing.T) {
	z := zone.New(nil)
	for _, s := range []string{".", "a", "b.a", `\000`, "example"} {
		puts(t, z, host(s, 1), true, api.OK)
	}
	before := all(z)
	for _, n := range []api.Name{
		{""}, {"", ""}, {"", "a"}, {"a", ""}, {"b", "", "a"}, {"b.a"}, {"b\x01a"}, {"."}, {"a."}, {"b\x00a"}, {"\x00\x01"}, {"\x01a"}, {"ba"}, {"a", "b"},
		{"\x00", "a"}, {"a" + strings.Repeat("\x00", 256)}, {strings.Repeat("a", 256)}, {strings.Repeat("a", 257)}, {"é"}, {"\u212a"},
		slices.Repeat(api.Name{"a"}, 1<<16), slices.Repeat(api.Name{""}, 1<<16), {strings.Repeat("x", 1<<20)},
	} {
		_, ok := z.Set(n, 1)
		if ok || z.Has(n) || len(z.Types(n)) != 0 || z.DropSet(n, 255) != 0 || z.DropSet(n, 1) != 0 || z.Drop(api.Record{Name: n, Type: 1, Data: []byte{10, 0, 0, 1}}) {
			t.Errorf("P15.2: %.40q", n)
		}
		cuts(t, z, n, "")
		if !slices.Equal(all(z), before) {
			t.Fatalf("P15.2: %.40q changed something", n)
		}
	}
}

// TestDeep (P15.2, P15.3): as many records as may be, at names of as many
// labels as may be, that part ways near the apex.
func TestDeep(t *testing.T) {
	z := zone.New(named("a"))
	var list []api.Name
	for i := range api.MaxRecords {
		n := slices.Repeat(api.Name{"x"}, 122)
		n = append(n, string([]byte{'a' + byte(i%26), 'a' + byte(i/26%26), 'a' + byte(i/676)}), "a")
		list = append(list, n)
		puts(t, z, api.Record{Name: n, Type: 1, Class: 1, Data: []byte{1, 2, 3, 4}}, true, api.OK)
	}
	c := z.Copy()
	slices.SortFunc(list, name.Compare)
	for i, n := range z.Names() {
		if !slices.Equal(n, list[i]) {
			t.Fatalf("P15.2: name %d: %.20q", i, n)
		}
		if !c.Has(n[60:]) || z.Has(append(api.Name{"x"}, n...)) {
			t.Fatalf("P15.2: Has of name %d", i)
		}
		if c.DropSet(n, 1) != 1 || c.Has(n[len(n)-2:]) {
			t.Fatalf("P15.1: DropSet of name %d", i)
		}
	}
	if len(z.Records()) != api.MaxRecords || z.Len() != api.MaxRecords || c.Len() != 0 || c.Has(nil) {
		t.Error("P15.2")
	}
}
