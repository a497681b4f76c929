package update_test

import (
	"encoding/hex"
	"fmt"
	"slices"
	"strings"
	"testing"

	"signet/api"
	"signet/name"
	"signet/rdata"
	"signet/update"
	"signet/zone"
)

// named: the name of a text.
func named(s string) api.Name {
	n, e := name.Parse(s)
	if e != api.OK {
		panic(s)
	}
	return n
}

// to: a name's bytes, as data have them.
func to(s string) string { return string(name.Wire(named(s))) }

// rec: a record of class IN.
func rec(n string, t uint16, ttl uint32, data string) api.Record {
	return api.Record{Name: named(n), Type: t, Class: api.ClassIN, Ttl: ttl, Data: []byte(data)}
}

// of: a record of another class, or of a prerequisite.
func of(n string, t, class uint16, data string) api.Record {
	return api.Record{Name: named(n), Type: t, Class: class, Data: []byte(data)}
}

// gone: a record that takes away a set, or all sets.
func gone(n string, t uint16) api.Record { return of(n, t, api.ClassANY, "") }

// not: a record that takes away one.
func not(n string, t uint16, data string) api.Record { return of(n, t, api.ClassNONE, data) }

// soaData: those of an SOA.
func soaData(main string, serial uint32) string {
	return string(rdata.SoaBytes(api.Soa{Main: named(main), Box: named("Box.example"), Serial: serial, Refresh: 1, Retry: 2, Expire: 3, Minimum: 4}))
}

// soa: the apex' SOA.
func soa(serial uint32) api.Record { return rec("example", 6, 50, soaData("Ns.example", serial)) }

// ns, alias, host: records with a time to live of 30.
func ns(n, target string) api.Record    { return rec(n, 2, 30, to(target)) }
func alias(n, target string) api.Record { return rec(n, 5, 30, to(target)) }
func host(n, four string) api.Record    { return rec(n, 1, 30, four) }

// zoned: a zone of these records.
func zoned(t *testing.T, apex string, l ...api.Record) *zone.Zone {
	t.Helper()
	z := zone.New(named(apex))
	for _, r := range l {
		if ok, e := z.Put(r); !ok || e != api.OK {
			t.Fatalf("Put(%q, %d): %v, %v", r.Name, r.Type, ok, e)
		}
	}
	return z
}

// common: a zone with something of each kind, its serial 7.
func common(t *testing.T, more ...api.Record) *zone.Zone {
	t.Helper()
	l := []api.Record{soa(7), ns("example", "ns.example"), host("ns.example", "aaaa"),
		alias("alias.example", "host.a.example"), host("host.a.example", "bbbb"), host("host.a.example", "cccc"),
		rec("host.a.example", 16, 20, "\x01t"), ns("sub.example", "ns.sub.example"), rec("sub.example", 43, 30, "12345")}
	return zoned(t, "Example", append(l, more...)...)
}

// data: a record's as text: of an SOA its serial, of names their text.
func data(r api.Record) string {
	if s, e := rdata.Soa(r.Data); r.Type == 6 && e == api.OK {
		return fmt.Sprintf("%s%d", name.Text(s.Main), s.Serial)
	}
	if to, e := rdata.Target(r.Type, r.Data); e == api.OK && r.Type != 15 {
		return name.Text(to)
	}
	if strings.Trim(string(r.Data), "abcdefghijklmnopqrstuvwxyzABCDEFGHIJKLMNOPQRSTUVWXYZ0123456789") == "" {
		return string(r.Data)
	}
	return "#" + hex.EncodeToString(r.Data)
}

// told: a record as text: name, type, time to live and data.
func told(r api.Record) string {
	out := fmt.Sprintf("%s%d/%d=%s", name.Text(r.Name), r.Type, r.Ttl, data(r))
	if r.Class != api.ClassIN {
		out += fmt.Sprintf("!%d", r.Class)
	}
	return out
}

// all: a zone's records, as texts.
func all(z *zone.Zone) []string {
	var out []string
	for _, r := range z.Records() {
		out = append(out, told(r))
	}
	return out
}

// shown: changes as texts, those of the serial (to 8) as "up".
func shown(l []api.Change) string {
	var out []string
	for _, c := range l {
		sign := "-"
		if c.Put {
			sign = "+"
		}
		out = append(out, sign+told(c.R))
	}
	text := strings.Join(out, " ")
	text = strings.Replace(text, "-example.6/50=Ns.example.7", "-7", 1)
	return strings.Replace(text, "+example.6/50=Ns.example.8", "+8", 1)
}

// message: an update.
func message(pre, l []api.Record) api.Message {
	return api.Message{Id: 5, Op: 5, Questions: []api.Question{{Name: named("EXAMPLE"), Type: 6, Class: 1}}, Answers: pre, Auth: l}
}

// applies: what Apply must answer, and that z is changed by just that.
func applies(t *testing.T, promise string, z *zone.Zone, m api.Message, code int, want string) {
	t.Helper()
	before := all(z)
	got, l := update.Apply(z, 60, m)
	if got != code || shown(l) != want {
		t.Errorf("%s: %d, %s, not %d, %s", promise, got, shown(l), code, want)
	}
	for _, c := range l {
		at := slices.Index(before, told(c.R))
		switch {
		case c.Put:
			before = append(before, told(c.R))
		case at < 0:
			t.Errorf("%s: %s went, and was not there", promise, told(c.R))
		default:
			before = slices.Delete(before, at, at+1)
		}
	}
	behind := all(z)
	slices.Sort(before)
	slices.Sort(behind)
	if !slices.Equal(before, behind) {
		t.Errorf("%s: %s: the zone is\n%q, not\n%q", promise, shown(l), behind, before)
	}
}

// TestQuestions (P17.1): one question, for the SOA of the apex.
func TestQuestions(t *testing.T) {
	type list = []api.Question
	q := func(n string, kind, class uint16) api.Question {
		return api.Question{Name: named(n), Type: kind, Class: class}
	}
	right := q("example", 6, 1)
	for i, x := range []struct {
		l    list
		code int
	}{
		{nil, 1}, {list{right, right}, 1}, {list{right, q("example", 1, 1)}, 1}, {list{q("net", 6, 1), right}, 1},
		{list{q("example", 1, 1)}, 1}, {list{q("example", 0, 1)}, 1}, {list{q("example", 255, 1)}, 1}, {list{q("net", 2, 1)}, 1}, {list{q("example", 2, 255)}, 1},
		{list{q("example", 6, 0)}, 9}, {list{q("example", 6, 254)}, 9}, {list{q("example", 6, 255)}, 9}, {list{q("example", 6, 3)}, 9},
		{list{q("net", 6, 1)}, 9}, {list{q(".", 6, 1)}, 9}, {list{q("ns.example", 6, 1)}, 9}, {list{q("xexample", 6, 1)}, 9}, {list{q("example.net", 6, 1)}, 9}, {list{{Name: api.Name{""}, Type: 6, Class: 1}}, 9}, {list{{Name: api.Name{"", "example"}, Type: 6, Class: 1}}, 9},
		{list{right}, 0}, {list{q("ExAmPlE", 6, 1)}, 0},
	} {
		want := ""
		if x.code == 0 {
			want = "-7 +8 +new.example.1/30=nnnn"
		}
		for _, m := range []api.Message{{}, {Id: 9, Reply: true, Op: 3, Aa: true, Tc: true, Code: 4, Add: []api.Record{rec("far", 1, 1, "")}, Edns: true, Size: 1, Do: true}} {
			m.Questions, m.Auth = x.l, []api.Record{host("new.example", "nnnn")}
			z := common(t)
			applies(t, fmt.Sprintf("P17.1: %d", i), z, m, x.code, want)
		}
	}
}

// TestApexes (P17.1): apexes of other lengths.
func TestApexes(t *testing.T) {
	for _, apex := range []string{".", "example", "Sub.example", "a.b.c.d.e.f"} {
		for _, asked := range []string{".", "example", "sub.EXAMPLE", "x.sub.example", "A.b.c.d.e.f", "b.c.d.e.f", "f"} {
			z := zone.New(named(apex))
			m := message(nil, []api.Record{{Name: named(apex), Type: 1, Class: 1, Data: []byte("aaaa")}})
			m.Questions[0].Name = named(asked)
			code, l := update.Apply(z, 60, m)
			if same := name.Same(named(apex), named(asked)); (code == 0) != same || (code == 9) == same || len(l) != z.Len() {
				t.Errorf("P17.1: %s asked of %s: %d", asked, apex, code)
			}
		}
	}
}

// TestFirstCode (P17.1): which of several codes is told.
func TestFirstCode(t *testing.T) {
	bad, far, missing := host("ns.example", "aaaa"), of("far", 1, 1, "aaaa"), of("q.example", 1, 255, "")
	long := rec("q.example", 1, 61, "aaaa")
	bad.Ttl = 1
	for i, x := range []struct {
		pre, l []api.Record
		code   int
	}{
		{[]api.Record{bad}, []api.Record{far}, 1}, {[]api.Record{far}, []api.Record{gone("x.example", 46)}, 10}, {[]api.Record{missing}, []api.Record{far}, 8},
		{[]api.Record{of("ns.example", 1, 1, "xxxx")}, []api.Record{far}, 8}, {nil, []api.Record{far}, 10}, {nil, []api.Record{long}, 5},
		{[]api.Record{of("ns.example", 255, 255, "")}, []api.Record{host("q.example", "aaaa"), long}, 5}, {[]api.Record{of("ns.example", 255, 254, "")}, []api.Record{host("q.example", "aaaa")}, 6},
	} {
		applies(t, fmt.Sprintf("P17.1: %d", i), common(t), message(x.pre, x.l), x.code, "")
		if i == 0 {
			m := message(x.pre, x.l)
			m.Questions = nil
			applies(t, "P17.1", common(t), m, 1, "")
			m = message([]api.Record{missing}, x.l)
			m.Questions[0].Class = 255
			applies(t, "P17.1", common(t), m, 9, "")
		}
	}
}

// TestPrereqOfBefore (P17.1): prerequisites, and what may be, are asked of the
// zone as it was.
func TestPrereqOfBefore(t *testing.T) {
	z := common(t)
	applies(t, "P17.1", z, message([]api.Record{of("q.example", 255, 254, ""), of("ns.example", 1, 1, "aaaa")}, []api.Record{host("q.example", "qqqq"), gone("ns.example", 1)}), 0, "-7 -ns.example.1/30=aaaa +8 +q.example.1/30=qqqq")
	applies(t, "P17.1", z, message([]api.Record{of("q.example", 255, 254, "")}, []api.Record{host("r.example", "qqqq")}), 6, "")
}

// TestChanges (P17.1): those that went, then those that came, in order; what
// came and went again isn't told.
func TestChanges(t *testing.T) {
	type list = []api.Record
	for i, x := range []struct {
		l    list
		want string
	}{
		{nil, ""},
		{list{host("z.example", "zzzz"), host("a.example", "aaaa"), host("z.example", "AAAA"), rec("Z.example", 0, 1, "")}, "-7 +8 +a.example.1/30=aaaa +z.example.0/1= +z.example.1/30=AAAA +z.example.1/30=zzzz"},
		{list{gone("sub.example", 255), gone("host.a.example", 1), host("b.example", "bbbb"), gone("NS.example", 1)}, "-7 -host.a.example.1/30=bbbb -host.a.example.1/30=cccc -ns.example.1/30=aaaa -sub.example.2/30=ns.sub.example. -sub.example.43/30=12345 +8 +b.example.1/30=bbbb"},
		{list{host("q.example", "qqqq"), gone("q.example", 255)}, ""}, {list{gone("ns.example", 1), host("ns.example", "aaaa")}, ""},
		{list{rec("ns.example", 1, 9, "aaaa"), host("ns.example", "aaaa")}, ""}, {list{rec("ns.example", 1, 9, "aaaa"), host("ns.example", "xxxx"), not("ns.example", 1, "xxxx")}, ""},
		{list{alias("alias.example", "x"), alias("alias.example", "host.a.example")}, ""},
		{list{gone("host.a.example", 255), host("host.a.example", "cccc"), rec("HOST.a.example", 16, 20, "\x01t")}, "-7 -host.a.example.1/30=bbbb +8"},
		{list{host("q.example", "qqqq"), gone("q.example", 255), host("ns.example", "aaaa"), host("r.example", "rrrr")}, "-7 +8 +r.example.1/30=rrrr"},
		// Data that went and came again with other letters are others, though Canon is the same.
		{list{gone("sub.example", 2), ns("sub.example", "NS.sub.example")}, "-7 -sub.example.2/30=ns.sub.example. +8 +sub.example.2/30=NS.sub.example."},
		{list{ns("sub.example", "NS.sub.example")}, ""},
		{list{rec("sub.example", 2, 31, to("NS.sub.example"))}, "-7 -sub.example.2/30=ns.sub.example. +8 +sub.example.2/31=ns.sub.example."},
	} {
		applies(t, fmt.Sprintf("P17.1: %d", i), common(t), message(nil, x.l), 0, x.want)
	}
}

// TestWhole (P17.5): whatever is refused, nothing of it is done.
func TestWhole(t *testing.T) {
	good := []api.Record{host("q.example", "qqqq"), gone("ns.example", 1), soa(99), rec("sub.example", 2, 1, to("x")), alias("alias.example", "y"), not("host.a.example", 1, "bbbb")}
	for i, x := range []struct {
		r    api.Record
		code int
	}{{host("far", "aaaa"), 10}, {host("q.example", "aaa"), 1}, {rec("q.example", 1, 61, "aaaa"), 5}, {gone("q.example", 48), 5}, {of("q.example", 1, 3, "aaaa"), 1}} {
		for at := range len(good) + 1 {
			z := common(t)
			applies(t, fmt.Sprintf("P17.5: %d", i), z, message(nil, slices.Insert(slices.Clone(good), at, x.r)), x.code, "")
		}
	}
	applies(t, "P17.5", common(t), message(nil, good), 0, "-7 -host.a.example.1/30=bbbb -alias.example.5/30=host.a.example. -ns.example.1/30=aaaa -sub.example.2/30=ns.sub.example. +example.6/50=Ns.example.99 +alias.example.5/30=y. +q.example.1/30=qqqq +sub.example.2/1=x. +sub.example.2/1=ns.sub.example.")
}

// full: common's zone, with as many records as may be.
func full(t *testing.T) *zone.Zone {
	t.Helper()
	z := common(t)
	for i := 0; z.Len() < 2000; i++ {
		z.Put(rec("many.example", 99, 1, string([]byte{byte(i >> 8), byte(i)})))
	}
	return z
}

// TestFull (P17.4, P17.5): one record too many ends it all, even if others
// would go behind it.
func TestFull(t *testing.T) {
	type list = []api.Record
	free := gone("ns.example", 1)
	up := "-7 -ns.example.1/30=aaaa +8"
	for i, x := range []struct {
		l    list
		code int
		want string
	}{
		{list{host("q.example", "qqqq")}, 2, ""}, {list{host("q.example", "qqqq"), free}, 2, ""}, {list{free, host("q.example", "qqqq")}, 0, up + " +q.example.1/30=qqqq"},
		{list{free, host("q.example", "qqqq"), host("q.example", "rrrr")}, 2, ""}, {list{host("q.example", "qqqq"), host("far", "aaaa")}, 10, ""}, {list{free}, 0, up},
		{list{host("ns.example", "aaaa")}, 0, ""}, {list{rec("ns.example", 1, 9, "aaaa")}, 0, "-7 -ns.example.1/30=aaaa +8 +ns.example.1/9=aaaa"},
		{list{alias("alias.example", "x")}, 0, "-7 -alias.example.5/30=host.a.example. +8 +alias.example.5/30=x."}, {list{soa(20)}, 0, "-7 +example.6/50=Ns.example.20"},
		{list{alias("ns.example", "x")}, 0, ""}, {list{host("alias.example", "aaaa")}, 0, ""}, {list{soa(6)}, 0, ""}, {list{rec("q.example", 6, 1, soaData("a", 9))}, 0, ""},
	} {
		z := full(t)
		applies(t, fmt.Sprintf("P17.4: %d", i), z, message(nil, x.l), x.code, x.want)
	}
	z := full(t)
	z.Drop(free)
	z.Drop(host("ns.example", "aaaa"))
	applies(t, "P17.4", z, message(nil, list{host("q.example", "qqqq")}), 0, "-7 +8 +q.example.1/30=qqqq")
	applies(t, "P17.4", z, message(nil, list{host("q.example", "rrrr")}), 2, "")
}
