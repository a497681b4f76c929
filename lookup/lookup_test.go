package lookup_test

import (
	"fmt"
	"slices"
	"strings"
	"testing"

	"signet/api"
	"signet/lookup"
	"signet/name"
	"signet/zone"
)

// named: the name of a text.
func named(s string) api.Name {
	n, e := name.Parse(s)
	if e != api.OK {
		panic(s)
	}
	return n
}

// to: a name's bytes, as data have them.
func to(s string) string { return string(name.Wire(named(s))) }

// soa: data of an SOA.
var soa = to("ns.example") + to("box.example") + strings.Repeat("\x00\x00\x00\x07", 5)

// rec: a record of class IN, its time to live that of its type.
func rec(n string, t uint16, data string) api.Record {
	return api.Record{Name: named(n), Type: t, Class: 1, Ttl: 100 + uint32(t), Data: []byte(data)}
}

// The records of the tests: a server, an alias, addresses, a text, a parent's digest.
func ns(n, target string) api.Record    { return rec(n, 2, to(target)) }
func alias(n, target string) api.Record { return rec(n, 5, to(target)) }
func host(n, four string) api.Record    { return rec(n, 1, four) }
func host6(n, four string) api.Record   { return rec(n, 28, strings.Repeat(four, 4)) }
func text(n, s string) api.Record       { return rec(n, 16, string([]byte{byte(len(s))})+s) }
func ds(n, s string) api.Record         { return rec(n, 43, "0123"+s) }

// zoned: a zone of these records.
func zoned(t *testing.T, apex string, l ...api.Record) *zone.Zone {
	t.Helper()
	z := zone.New(named(apex))
	for _, r := range l {
		if ok, e := z.Put(r); !ok || e != api.OK {
			t.Fatalf("Put(%q, %d): %v, %v", r.Name, r.Type, ok, e)
		}
	}
	return z
}

// set: one as text; its time to live is told where it isn't that of rec.
func set(s api.Set) string {
	out := fmt.Sprintf("%s%d", name.Text(s.Name), s.Type)
	if s.Ttl != 100+uint32(s.Type) {
		out += fmt.Sprintf("!%d", s.Ttl)
	}
	return out + fmt.Sprintf("%q", s.Data)
}

// sets: some as text.
func sets(l []api.Set) string {
	var out []string
	for _, s := range l {
		out = append(out, set(s))
	}
	return strings.Join(out, " ")
}

// told: what was found as text.
func told(f lookup.Found) string {
	var wild []string
	for _, n := range f.Wild {
		wild = append(wild, name.Text(n))
	}
	kinds := []string{"answer", "alias", "referral", "none", "nothing"}
	return strings.Join([]string{kinds[f.Kind], sets(f.Answers), sets(f.Auth), sets(f.Add), strings.Join(wild, " "), name.Text(f.At)}, "|")
}

// brief: what was found, of sets their names and types alone.
func brief(f lookup.Found) string {
	short := func(l []api.Set) []api.Set {
		var out []api.Set
		for _, s := range l {
			out = append(out, api.Set{Name: s.Name, Type: s.Type, Ttl: 100 + uint32(s.Type)})
		}
		return out
	}
	f.Answers, f.Auth, f.Add = short(f.Answers), short(f.Auth), short(f.Add)
	return strings.ReplaceAll(told(f), "[]", "")
}

// row: a question, and what brief must tell.
type row struct {
	q    string
	t    uint16
	want string
}

// finds: z's answers are those of the rows.
func finds(t *testing.T, z *zone.Zone, rows ...row) {
	t.Helper()
	for _, r := range rows {
		if got := brief(lookup.Find(z, named(r.q), r.t)); got != r.want {
			t.Errorf("P16.1: %s %d:\n%s, not\n%s", r.q, r.t, got, r.want)
		}
	}
}

// TestKinds (P16.1): the numbers of what is found.
func TestKinds(t *testing.T) {
	z := zoned(t, "example", host("a.example", "1234"), alias("b.example", "net"), ns("c.example", "net"))
	for i, q := range []string{"a.example", "b.example", "c.example", "example", "d.example"} {
		if f := lookup.Find(z, named(q), 1); f.Kind != i {
			t.Errorf("P16.1: %s: %d", q, f.Kind)
		}
	}
}

// TestWithin (P16.1): of what isn't within the apex nothing is told.
func TestWithin(t *testing.T) {
	z := zoned(t, "B.Example", rec("b.example", 6, soa), ns("b.example", "ns.b.example"), host("*.b.example", "1234"), alias("a.b.example", "b.b.example"))
	for _, kind := range []uint16{0, 1, 2, 5, 6, 43, 255, 65535} {
		for _, q := range []string{".", "Example", "net", "c.Example", "bb.example", "b.example.net", "a.c.example", "a.b.xexample", "b.EXAMPLE.example", "b"} {
			finds(t, z, row{q, kind, "nothing|||||" + name.Text(named(q))})
		}
		for _, n := range []api.Name{{"b.example"}, {"a", "b.example"}, {"b", "example", ""}, {"b", "", "example"}, {"a", "b", "examplf"}} {
			f := lookup.Find(z, n, kind)
			if f.Kind != api.LookNothing || len(f.Answers)+len(f.Auth)+len(f.Add)+len(f.Wild) != 0 || !slices.Equal(f.At, n) {
				t.Errorf("P16.1: %q: %v", n, f)
			}
		}
	}
	finds(t, z,
		row{"B.EXAMPLE", 6, "answer|b.example.6||||B.EXAMPLE."},
		row{"b.example", 1, "none||b.example.6|||b.example."},
		row{"c.B.example", 1, "answer|c.b.example.1|||*.b.example.|c.B.example."},
		row{"a.b.exaMple", 1, "answer|a.b.example.5 b.b.example.1|||*.b.example.|b.b.example."})
}

// TestApexes (P16.1): all names are within the root; a zone without records,
// or without an SOA, answers too.
func TestApexes(t *testing.T) {
	root := zoned(t, ".", rec(".", 6, soa), ns("net", "a.net"), host("a.net", "1234"), host("a.b", "1234"), alias("c", "."))
	finds(t, root,
		row{".", 6, "answer|.6||||."}, row{".", 1, "none||.6|||."}, row{"b", 1, "none||.6|||b."}, row{"A.B", 1, "answer|a.b.1||||A.B."},
		row{"x", 1, "nothing||.6|||x."}, row{"x.a.b", 1, "nothing||.6|||x.a.b."}, row{"q.net", 1, "referral||net.2|a.net.1||q.net."},
		row{"c", 6, "answer|c.5 .6||||."}, row{"c", 1, "none|c.5|.6|||."})
	for _, apex := range []string{".", "example", "a.b.example"} {
		empty := zoned(t, apex)
		for _, q := range []string{".", "example", "B.example", "c.a.b.example", "net"} {
			finds(t, empty, row{q, 6, "nothing|||||" + name.Text(named(q))}, row{q, 255, "nothing|||||" + name.Text(named(q))})
		}
	}
	bare := zoned(t, "example", host("b.a.example", "1234"), alias("c.example", "a.example"), alias("d.example", "e.example"), host("*.f.example", "1234"))
	finds(t, bare,
		row{"example", 1, "none|||||example."}, row{"example", 6, "none|||||example."}, row{"a.example", 1, "none|||||a.example."}, row{"b.a.example", 2, "none|||||b.a.example."},
		row{"b.example", 1, "nothing|||||b.example."}, row{"c.example", 1, "none|c.example.5||||a.example."}, row{"d.example", 1, "nothing|d.example.5||||e.example."},
		row{"g.f.example", 2, "none||||*.f.example.|g.f.example."})
}

// TestApexSoa (P16.1): the apex' SOA, and no other one.
func TestApexSoa(t *testing.T) {
	z := zoned(t, "example", rec("a.example", 6, soa), host("b.a.example", "1234"))
	finds(t, z, row{"a.example", 1, "none|||||a.example."}, row{"c.a.example", 1, "nothing|||||c.a.example."}, row{"a.example", 6, "answer|a.example.6||||a.example."})
	for _, r := range []api.Record{rec("example", 6, soa), rec("example", 6, "\x01a\x00"+soa[12:])} {
		if ok, e := z.Put(r); !ok || e != api.OK {
			t.Fatal(e)
		}
	}
	f := lookup.Find(z, named("c.A.Example"), 1)
	if len(f.Auth) != 1 || len(f.Auth[0].Data) != 2 || f.Auth[0].Ttl != 106 || !slices.Equal(f.Auth[0].Name, named("example")) {
		t.Errorf("P16.1: %s", told(f))
	}
}

// TestAnswers (P16.1): sets that stand there, whole, under names in small letters.
func TestAnswers(t *testing.T) {
	z := zoned(t, "example", rec("example", 6, soa), ns("example", "Ns.example"), host("A.example", "2222"), host("a.example", "1111"), rec("a.example", 1000, "X"), rec("a.example", 256, ""), rec("a.example", 47, "x"), rec("a.example", 255, "any"))
	for _, r := range []struct {
		q    string
		t    uint16
		want string
	}{
		{"A.Example", 1, `answer|a.example.1["1111" "2222"]||||A.Example.`},
		{"a.example", 256, `answer|a.example.256[""]||||a.example.`},
		{"a.example", 255, `answer|a.example.1["1111" "2222"] a.example.47["x"] a.example.255["any"] a.example.256[""] a.example.1000["X"]||||a.example.`},
		{"example", 2, `answer|example.2["\x02Ns\aexample\x00"]||||example.`},
		{"a.example", 2, `none||` + set(api.Set{Name: named("example"), Type: 6, Ttl: 106, Data: [][]byte{[]byte(soa)}}) + `|||a.example.`},
	} {
		if got := told(lookup.Find(z, named(r.q), r.t)); got != r.want {
			t.Errorf("P16.1: %s %d:\n%s, not\n%s", r.q, r.t, got, r.want)
		}
	}
	finds(t, z, row{"example", 255, "answer|example.2 example.6||||example."}, row{"example", 43, "none||example.6|||example."},
		row{"a.example", 0, "none||example.6|||a.example."}, row{"a.example", 65535, "none||example.6|||a.example."}, row{"b.a.example", 255, "nothing||example.6|||b.a.example."})
}

// TestNone (P16.1): a name below which alone something stands is there, and no
// * stands for it, or for what is below it.
func TestNone(t *testing.T) {
	z := zoned(t, "example", rec("example", 6, soa), host("c.B.a.example", "1234"), host("*.example", "1234"), host("*.a.example", "1234"))
	for _, kind := range []uint16{1, 6, 43, 255} {
		finds(t, z, row{"b.A.example", kind, "none||example.6|||b.A.example."}, row{"a.example", kind, "none||example.6|||a.example."}, row{"d.b.a.example", kind, "nothing||example.6|||d.b.a.example."})
	}
	finds(t, z, row{"d.a.example", 1, "answer|d.a.example.1|||*.a.example.|d.a.example."})
}

// TestCuts (P16.1): at a cut and below it another server is told.
func TestCuts(t *testing.T) {
	z := zoned(t, "example", rec("example", 6, soa), ns("example", "ns.example"), ds("example", "x"), host("ns.example", "1234"),
		ns("Sub.example", "NS.sub.example"), host("ns.SUB.example", "1234"), ds("sub.example", "b"), ds("sub.example", "a"), text("sub.example", "t"), ns("deep.sub.example", "ns.deep.sub.example"), ds("deep.sub.example", "x"), host("ns.deep.sub.example", "1234"), host("*.sub.example", "1234"), alias("x.sub.example", "ns.example"),
		ns("plain.example", "ns.example"), text("plain.example", "t"), alias("plain.example", "ns.example"), ns("e.f.example", "net"))
	refer := "referral||sub.example.2 sub.example.43|ns.sub.example.1||"
	for _, q := range []string{"Sub.Example", "ns.sub.example", "NO.sub.example", "deep.sub.example", "x.deep.sub.example", "*.sub.example", "a.b.c.sub.example", "x.sub.example"} {
		for _, kind := range []uint16{0, 1, 2, 5, 6, 16, 255} {
			finds(t, z, row{q, kind, refer + name.Text(named(q))})
		}
		if q != "Sub.Example" {
			finds(t, z, row{q, 43, refer + name.Text(named(q))})
		}
	}
	f := lookup.Find(z, named("a.sub.example"), 43)
	want := `referral||sub.example.2["\x02NS\x03sub\aexample\x00"] sub.example.43["0123a" "0123b"]|ns.sub.example.1["1234"]||a.sub.example.`
	if told(f) != want {
		t.Errorf("P16.1: %s", told(f))
	}
	finds(t, z,
		row{"SUB.example", 43, "answer|sub.example.43||||SUB.example."},
		row{"plain.example", 1, "referral||plain.example.2|||plain.example."},
		row{"plain.example", 5, "referral||plain.example.2|||plain.example."},
		row{"plain.example", 43, "none|plain.example.5|example.6|||ns.example."},
		row{"e.f.example", 1, "referral||e.f.example.2|||e.f.example."},
		row{"e.f.example", 43, "none||example.6|||e.f.example."},
		row{"f.example", 1, "none||example.6|||f.example."},
		row{"g.f.example", 1, "nothing||example.6|||g.f.example."},
		row{"example", 43, "answer|example.43||||example."},
		row{"example", 2, "answer|example.2||||example."},
		row{"ns.example", 1, "answer|ns.example.1||||ns.example."})
}

// TestAliasToCut (P16.1): behind an alias a cut's DS isn't what was asked.
func TestAliasToCut(t *testing.T) {
	z := zoned(t, "example", rec("example", 6, soa), ns("sub.example", "net"), ds("sub.example", "x"), alias("a.example", "Sub.example"), alias("b.example", "c.sub.example"), alias("*.w.example", "a.example"))
	refer := "sub.example.2 sub.example.43||"
	for _, kind := range []uint16{1, 2, 43} {
		finds(t, z, row{"a.example", kind, "referral|a.example.5|" + refer + "|Sub.example."}, row{"B.example", kind, "referral|b.example.5|" + refer + "|c.sub.example."},
			row{"q.w.example", kind, "referral|q.w.example.5 a.example.5|" + refer + "*.w.example.|Sub.example."})
	}
	finds(t, z, row{"a.example", 255, "answer|a.example.5||||a.example."}, row{"sub.example", 43, "answer|sub.example.43||||sub.example."})
}

// TestGlue (P16.1): which addresses stand beside a referral, and in which order.
func TestGlue(t *testing.T) {
	z := zoned(t, "example", host("ns.example", "1234"), host6("ns.example", "1234"), ns("example", "ns.example"), host("example", "1234"),
		// Names lie in order of their bytes, so of their first labels' lengths first.
		ns("cut.example", "cut.example"), host("cut.example", "1111"),
		ns("cut.example", "Zz.cut.example"), host6("zz.cut.example", "2222"), host("zz.cut.example", "3333"), host("zz.cut.example", "0000"),
		ns("cut.example", "aaa.cut.example"), host("AAA.cut.example", "4444"), text("aaa.cut.example", "t"),
		ns("cut.example", "aa.x.other.example"), host6("aa.x.other.example", "5555"), ns("other.example", "net"), ns("x.other.example", "net"),
		ns("cut.example", "ns.example"), ns("cut.example", "example"), ns("cut.example", "ns.net"), ns("cut.example", "."), ns("cut.example", "b.cut.example"), text("b.cut.example", "t"),
		ns("cut.example", "c.cut.example"), alias("c.cut.example", "aaa.cut.example"), ns("cut.example", "*.cut.example"), ns("cut.example", "q.wild.example"), host("*.wild.example", "6666"), ns("cut.example", "cut.example.net"))
	f := lookup.Find(z, named("q.cut.example"), 1)
	want := `aa.x.other.example.28["5555555555555555"] zz.cut.example.1["0000" "3333"] zz.cut.example.28["2222222222222222"] aaa.cut.example.1["4444"] cut.example.1["1111"]`
	if got := sets(f.Add); got != want || len(f.Auth) != 1 || len(f.Auth[0].Data) != 13 {
		t.Errorf("P16.1: %s", told(f))
	}
	seen := map[string]bool{}
	for _, s := range f.Add {
		if seen[set(s)] {
			t.Errorf("P16.1: %s twice", set(s))
		}
		seen[set(s)] = true
	}
}

// TestOneServer (P16.1): a server of two cuts, put twice at one of them,
// stands beside each once.
func TestOneServer(t *testing.T) {
	z := zoned(t, "example", ns("a.example", "ns.b.example"), ns("b.example", "NS.b.example"), host("ns.b.example", "1234"))
	if ok, e := z.Put(ns("b.example", "ns.B.example")); ok || e != api.OK {
		t.Fatal(ok, e)
	}
	finds(t, z, row{"a.example", 1, "referral||a.example.2|ns.b.example.1||a.example."}, row{"b.example", 1, "referral||b.example.2|ns.b.example.1||b.example."})
}

// TestAliases (P16.1): where an alias leads.
func TestAliases(t *testing.T) {
	z := zoned(t, "example", rec("example", 6, soa), host("h.example", "1234"), alias("a.example", "B.example"), alias("b.example", "H.Example"), text("b.example", "t"), alias("out.example", "far.Net"), alias("up.example", "."), alias("near.example", "xexample"),
		alias("top.example", "EXAMPLE"), alias("self.example", "Self.example"), alias("no.example", "q.No.example"), alias("ent.example", "e.example"), host("f.e.example", "1234"),
		alias("two.example", "z.example"), alias("two.example", "Q.example"), alias("one.example", "two.example"), alias("two.example", "far.net"),
		alias("ring.example", "ring2.example"), alias("ring2.example", "ring3.example"), alias("ring3.example", "RING2.example"))
	finds(t, z,
		row{"A.example", 1, "answer|a.example.5 b.example.5 h.example.1||||H.Example."},
		row{"a.example", 2, "none|a.example.5 b.example.5|example.6|||H.Example."},
		row{"a.example", 16, "answer|a.example.5 b.example.16||||B.example."},
		row{"a.example", 5, "answer|a.example.5||||a.example."},
		row{"a.example", 255, "answer|a.example.5||||a.example."},
		row{"b.example", 255, "answer|b.example.5 b.example.16||||b.example."},
		row{"b.example", 1, "answer|b.example.5 h.example.1||||H.Example."},
		row{"Out.example", 1, "alias|out.example.5||||far.Net."},
		row{"up.example", 1, "alias|up.example.5||||."},
		row{"near.example", 1, "alias|near.example.5||||xexample."},
		row{"top.example", 6, "answer|top.example.5 example.6||||EXAMPLE."},
		row{"self.example", 1, "alias|self.example.5||||Self.example."},
		row{"no.example", 1, "nothing|no.example.5|example.6|||q.No.example."},
		row{"ent.example", 1, "none|ent.example.5|example.6|||e.example."},
		row{"two.example", 1, "nothing|two.example.5|example.6|||Q.example."},
		row{"one.example", 1, "nothing|one.example.5 two.example.5|example.6|||Q.example."},
		row{"ring.example", 1, "alias|ring.example.5 ring2.example.5 ring3.example.5||||RING2.example."},
		row{"RING2.example", 1, "alias|ring2.example.5 ring3.example.5||||RING2.example."})
	if f := lookup.Find(z, named("two.example"), 5); len(f.Answers) != 1 || len(f.Answers[0].Data) != 3 {
		t.Errorf("P16.1: %s", told(f))
	}
}

// TestEightAliases (P16.1): eight are told, and then nothing more is asked.
func TestEightAliases(t *testing.T) {
	z := zoned(t, "example", rec("example", 6, soa), host("k.example", "1234"))
	aliases := "abcdefghij"
	for i, c := range aliases {
		r := alias(string(c)+".example", string(c+1)+".example")
		if _, e := z.Put(r); e != api.OK {
			t.Fatal(e, i)
		}
	}
	var answers []string
	for i := range aliases {
		answers = append(answers, aliases[i:i+1]+".example.5")
	}
	for i := range aliases {
		some := answers[i:]
		want := "answer|" + strings.Join(some, " ") + " k.example.1||||k.example."
		if len(some) >= 8 {
			want = "alias|" + strings.Join(some[:8], " ") + "||||" + string(rune('a'+i+8)) + ".example."
		}
		finds(t, z, row{aliases[i:i+1] + ".example", 1, want})
	}
	finds(t, z, row{"c.example", 5, "answer|c.example.5||||c.example."},
		row{"d.example", 2, "none|" + strings.Join(answers[3:], " ") + "|example.6|||k.example."},
		row{"c.example", 2, "alias|" + strings.Join(answers[2:], " ") + "||||k.example."})
}

// TestWild (P16.1): what a * stands for.
func TestWild(t *testing.T) {
	z := zoned(t, "example", rec("example", 6, soa), text("*.W.example", "t"), host("*.w.example", "1234"), host("there.w.example", "1234"), host("x.ent.w.example", "1234"), ns("cut.w.example", "net"),
		host("deep.*.v.example", "1234"), host("*.*.u.example", "1234"), text("*.u.example", "t"), ns("*.k.example", "ns.k.example"), host("*x.l.example", "1234"), host("l.example", "1234"), host("*.m.example", "1234"), text("*.a.m.example", "t"))
	finds(t, z,
		row{"Y.w.example", 1, "answer|y.w.example.1|||*.w.example.|Y.w.example."},
		row{"y.w.example", 255, "answer|y.w.example.1 y.w.example.16|||*.w.example.|y.w.example."},
		row{"Z.Y.w.example", 16, "answer|z.y.w.example.16|||*.w.example.|Z.Y.w.example."},
		row{"y.W.Example", 2, "none||example.6||*.w.example.|y.W.Example."},
		row{"y.w.example", 43, "none||example.6||*.w.example.|y.w.example."},
		row{"*.w.example", 1, "answer|*.w.example.1||||*.w.example."},
		row{"*.w.example", 2, "none||example.6|||*.w.example."},
		row{"a.*.w.example", 1, "nothing||example.6|||a.*.w.example."},
		row{"there.w.example", 16, "none||example.6|||there.w.example."},
		row{"a.there.w.example", 1, "nothing||example.6|||a.there.w.example."},
		row{"ent.w.example", 1, "none||example.6|||ent.w.example."},
		row{"y.ent.w.example", 1, "nothing||example.6|||y.ent.w.example."},
		row{"y.cut.w.example", 1, "referral||cut.w.example.2|||y.cut.w.example."},
		row{"w.example", 1, "none||example.6|||w.example."},
		row{"y.v.example", 1, "nothing||example.6|||y.v.example."},
		row{"*.v.example", 1, "none||example.6|||*.v.example."},
		row{"y.*.u.example", 1, "answer|y.*.u.example.1|||*.*.u.example.|y.*.u.example."},
		row{"y.u.example", 16, "answer|y.u.example.16|||*.u.example.|y.u.example."},
		row{"y.k.example", 2, "answer|y.k.example.2|||*.k.example.|y.k.example."},
		row{"y.k.example", 1, "none||example.6||*.k.example.|y.k.example."},
		row{"*.k.example", 1, "referral||*.k.example.2|||*.k.example."},
		row{"y.l.example", 1, "nothing||example.6|||y.l.example."},
		row{"b.a.m.example", 1, "none||example.6||*.a.m.example.|b.a.m.example."},
		row{"a.m.example", 1, "none||example.6|||a.m.example."},
		row{"y.b.m.example", 1, "answer|y.b.m.example.1|||*.m.example.|y.b.m.example."})
	f := lookup.Find(z, named("Q.W.Example"), 1)
	if want := `answer|q.w.example.1["1234"]|||*.w.example.|Q.W.Example.`; told(f) != want {
		t.Errorf("P16.1: %s", told(f))
	}
	top := zoned(t, "example", rec("example", 6, soa), host("*.example", "1234"))
	finds(t, top, row{"a.b.c.example", 1, "answer|a.b.c.example.1|||*.example.|a.b.c.example."}, row{"example", 1, "none||example.6|||example."})
}

// TestWildAliases (P16.1): * names that lead on; Wild has one for each time.
func TestWildAliases(t *testing.T) {
	z := zoned(t, "example", rec("example", 6, soa), alias("*.a.example", "Q.b.example"), alias("*.b.example", "c.example"), host("c.example", "1234"),
		alias("*.s.example", "x.s.example"), alias("*.t.example", "*.t.example"), alias("start.example", "y.a.example"), alias("*.w.example", "y.x.example"), text("*.x.example", "t"))
	finds(t, z,
		row{"q.a.example", 1, "answer|q.a.example.5 q.b.example.5 c.example.1|||*.a.example. *.b.example.|c.example."},
		row{"Start.example", 1, "answer|start.example.5 y.a.example.5 q.b.example.5 c.example.1|||*.a.example. *.b.example.|c.example."},
		row{"q.a.example", 5, "answer|q.a.example.5|||*.a.example.|q.a.example."},
		row{"q.a.example", 255, "answer|q.a.example.5|||*.a.example.|q.a.example."},
		row{"q.s.example", 1, "alias|q.s.example.5 x.s.example.5|||*.s.example. *.s.example.|x.s.example."},
		row{"X.s.example", 1, "alias|x.s.example.5|||*.s.example.|x.s.example."},
		row{"q.t.example", 1, "alias|q.t.example.5 *.t.example.5|||*.t.example.|*.t.example."},
		row{"q.w.example", 1, "none|q.w.example.5|example.6||*.w.example. *.x.example.|y.x.example."},
		row{"q.w.example", 16, "answer|q.w.example.5 y.x.example.16|||*.w.example. *.x.example.|y.x.example."})
}
