package chain_test

import (
	"bytes"
	"crypto/sha256"
	"encoding/base32"
	"encoding/hex"
	"fmt"
	"slices"
	"strings"
	"testing"

	"signet/api"
	"signet/chain"
	"signet/name"
	"signet/rdata"
	"signet/zone"
)

// named: the name of a text.
func named(s string) api.Name {
	n, e := name.Parse(s)
	if e != api.OK {
		panic(s)
	}
	return n
}

// to: a name's bytes, as data have them.
func to(s string) string { return string(name.Wire(named(s))) }

// rec: a record of class IN.
func rec(n string, t uint16, ttl uint32, data string) api.Record {
	return api.Record{Name: named(n), Type: t, Class: api.ClassIN, Ttl: ttl, Data: []byte(data)}
}

// host, ns, ds, text: records of these types.
func host(n string) api.Record { return rec(n, 1, 30, "aaaa") }
func ns(n string) api.Record   { return rec(n, 2, 30, to("ns.far")) }
func ds(n string) api.Record   { return rec(n, 43, 30, "12345") }
func text(n string) api.Record { return rec(n, 16, 30, "\x01t") }

// soa: an SOA of example.
func soa(main string, ttl, minimum uint32) api.Record {
	return rec("example", 6, ttl, string(rdata.SoaBytes(api.Soa{Main: named(main), Box: named("box"), Serial: 7, Minimum: minimum})))
}

// zoned: a zone of these records.
func zoned(t *testing.T, apex string, l ...api.Record) *zone.Zone {
	t.Helper()
	z := zone.New(named(apex))
	for _, r := range l {
		if ok, e := z.Put(r); !ok || e != api.OK {
			t.Fatalf("Put(%q, %d): %v, %v", r.Name, r.Type, ok, e)
		}
	}
	return z
}

// settings: such as config.Check takes.
func settings(apex string) api.Config {
	return api.Config{Apex: named(apex), KeyTtl: 10, Prop: 2, DsTtl: 8, DsProp: 1, Valid: 300, Lead: 100, Gap: 20, MaxTtl: 60, Salt: []byte{0xaa, 0xbb}, Iter: 2, H: 6, Size: 1232}
}

// hashed: a name's hash by the library, in the words of P9.2.
func hashed(c api.Config, n api.Name) string {
	sum := sha256.Sum256(append(name.Wire(name.Lower(n)), c.Salt...))
	for range c.Iter {
		sum = sha256.Sum256(append(bytes.Clone(sum[:20]), c.Salt...))
	}
	return string(sum[:20])
}

// label: a hash as the first label of an owner.
func label(hash string) string {
	return strings.ToLower(base32.HexEncoding.EncodeToString([]byte(hash)))
}

// told: a record as text, all that it has.
func told(r api.Record) string {
	return fmt.Sprintf("%q %d %d %d %x", r.Name, r.Type, r.Class, r.Ttl, r.Data)
}

// tells: records as texts.
func tells(l []api.Record) []string {
	var out []string
	for _, r := range l {
		out = append(out, told(r))
	}
	return out
}

// wanted: names with their types, as a ring's records, made by the library, as
// texts in order of hashes.
func wanted(c api.Config, ttl uint32, names map[string]string) []string {
	var list []string
	of := map[string]string{}
	for s := range names {
		h := hashed(c, named(s))
		list = append(list, h)
		of[h] = names[s]
	}
	slices.Sort(list)
	var out []string
	for i, h := range list {
		data := fmt.Sprintf("01 00 %04x %02x %x 14 %x %s", c.Iter, len(c.Salt), c.Salt, list[(i+1)%len(list)], of[h])
		b, e := hex.DecodeString(strings.ReplaceAll(data, " ", ""))
		if e != nil {
			panic(e)
		}
		owner := append(api.Name{label(h)}, c.Apex...)
		out = append(out, told(api.Record{Name: owner, Type: 50, Class: 1, Ttl: ttl, Data: b}))
	}
	return out
}

// Bitmaps by hand, of the types that they are called by.
const (
	none    = ""
	apexBit = "00 07 00 00 00 00 00 02 90" // RRSIG, DNSKEY, NSEC3PARAM
	soaBit  = "00 07 02 00 00 00 00 02 90"
	soaNs   = "00 07 22 00 00 00 00 02 90"
	hostBit = "00 06 40 00 00 00 00 02" // A, RRSIG
	textBit = "00 06 00 00 80 00 00 02" // TXT, RRSIG
	cutBit  = "00 01 20"                // NS
	safeBit = "00 06 20 00 00 00 00 12" // NS, DS, RRSIG
	dsBit   = "00 06 00 00 00 00 00 12" // DS, RRSIG
)

// rings: New(z, c) is the ring of these names.
func rings(t *testing.T, promise string, z *zone.Zone, c api.Config, ttl uint32, names map[string]string) *chain.Ring {
	t.Helper()
	r := chain.New(z, c)
	if got, want := tells(r.Records()), wanted(c, ttl, names); !slices.Equal(got, want) || r.Len() != len(names) {
		t.Errorf("%s: %d records:\n%s\nnot\n%s", promise, r.Len(), strings.Join(got, "\n"), strings.Join(want, "\n"))
	}
	return r
}

// TestNames (P18.1): which names are of the ring, and their types.
func TestNames(t *testing.T) {
	type list = []api.Record
	type names = map[string]string
	for i, x := range []struct {
		l     list
		names names
	}{
		{nil, names{"example": apexBit}},
		{list{soa("ns", 50, 0), ns("example")}, names{"example": soaNs}},
		{list{host("A.Example")}, names{"example": apexBit, "a.example": hostBit}},
		{list{host("c.b.a.example")}, names{"example": apexBit, "a.example": none, "b.a.example": none, "c.b.a.example": hostBit}},
		{list{host("c.b.a.example"), text("a.example"), host("d.b.a.example")}, names{"example": apexBit, "a.example": textBit, "b.a.example": none, "c.b.a.example": hostBit, "d.b.a.example": hostBit}},
		{list{text("*.a.example"), text("b.*.example")}, names{"example": apexBit, "a.example": none, "*.a.example": textBit, "*.example": none, "b.*.example": textBit}},
		// Cuts, and what is at and below them.
		{list{ns("a.example")}, names{"example": apexBit, "a.example": cutBit}},
		{list{ns("a.example"), ds("a.example")}, names{"example": apexBit, "a.example": safeBit}},
		{list{ns("a.example"), host("a.example"), text("a.example")}, names{"example": apexBit, "a.example": cutBit}},
		{list{ns("a.example"), ds("a.example"), host("a.example"), host("b.a.example"), text("c.d.a.example"), ns("e.a.example"), ds("f.e.a.example")}, names{"example": apexBit, "a.example": safeBit}},
		{list{ns("b.a.example"), host("c.b.a.example"), host("c.a.example")}, names{"example": apexBit, "a.example": none, "b.a.example": cutBit, "c.a.example": hostBit}},
		{list{ds("a.example"), host("b.a.example")}, names{"example": apexBit, "a.example": dsBit, "b.a.example": hostBit}},
		{list{ns("*.a.example"), host("b.*.a.example"), host("b.a.example")}, names{"example": apexBit, "a.example": none, "*.a.example": cutBit, "b.a.example": hostBit}},
		{list{ns("example"), ns("example.example"), host("q.example.example")}, names{"example": "00 07 20 00 00 00 00 02 90", "example.example": cutBit}},
		// Types of all kinds.
		{list{rec("a.example", 0, 1, ""), rec("a.example", 255, 1, ""), rec("a.example", 256, 1, ""), rec("a.example", 65535, 1, "")}, names{"example": apexBit, "a.example": "00 20 80 00 00 00 00 02" + strings.Repeat("00", 25) + "01 01 01 80 ff 20" + strings.Repeat("00", 31) + "01"}},
		{list{rec("a.example", 46, 1, strings.Repeat("\x00", 19)), rec("a.example", 50, 1, "1234\x00\x01n"), rec("example", 51, 1, "1234\x00"), rec("example", 48, 1, "1234"), ds("example")}, names{"example": "00 07 00 00 00 00 00 12 90", "a.example": "00 07 00 00 00 00 00 02 20"}},
		{list{rec("a.example", 2, 1, to(".")), rec("a.example", 46, 1, strings.Repeat("\x00", 19))}, names{"example": apexBit, "a.example": cutBit}},
	} {
		rings(t, fmt.Sprintf("P18.1: %d", i), zoned(t, "example", x.l...), settings("example"), 0, x.names)
	}
}

// TestTtl (P18.1): the lowest of three.
func TestTtl(t *testing.T) {
	names := map[string]string{"example": soaBit}
	for _, x := range []struct{ ttl, minimum, most, want uint32 }{
		{50, 30, 60, 30}, {30, 50, 60, 30}, {30, 30, 60, 30}, {61, 62, 60, 60}, {60, 60, 60, 60}, {61, 59, 60, 59}, {59, 61, 60, 59}, {0, 5, 60, 0}, {5, 0, 60, 0}, {0, 0, 60, 0}, {5, 5, 0, 0},
		{1<<32 - 1, 1<<32 - 1, 1 << 24, 1 << 24}, {1<<32 - 1, 1<<32 - 1, 1<<32 - 1, 1<<32 - 1}, {1 << 31, 1<<31 - 1, 1<<32 - 1, 1<<31 - 1}, {1<<31 - 1, 1 << 31, 1<<32 - 1, 1<<31 - 1}, {1 << 31, 1<<31 + 1, 1<<32 - 1, 1 << 31},
	} {
		c := settings("example")
		c.MaxTtl = x.most
		rings(t, fmt.Sprintf("P18.1: %v", x), zoned(t, "example", soa("ns", x.ttl, x.minimum)), c, x.want, names)
	}
	for i, l := range [][]api.Record{{soa("a", 50, 20), soa("B", 50, 10)}, {soa("b", 50, 10), soa("A", 50, 20)}, {soa("a", 40, 21), soa("a", 20, 50)}} {
		rings(t, fmt.Sprintf("P18.1: the first SOA, %d", i), zoned(t, "example", l...), settings("example"), 20, names)
	}
	below := rec("a.example", 6, 50, string(soa("ns", 50, 30).Data))
	rings(t, "P18.1: no SOA", zoned(t, "example", below), settings("example"), 0, map[string]string{"example": apexBit, "a.example": "00 06 02 00 00 00 00 02"})
}

// TestSettings (P18.1): the salt and the iterations are the settings', from
// none to the most.
func TestSettings(t *testing.T) {
	l := []api.Record{soa("ns", 50, 30), host("a.example"), ns("b.example"), host("q.b.example"), host("c.c.example")}
	names := map[string]string{"example": soaBit, "a.example": hostBit, "b.example": cutBit, "c.example": none, "c.c.example": hostBit}
	for _, salt := range []string{"", "s", strings.Repeat("\xff", 16)} {
		for _, iter := range []uint16{0, 1, 49, 50} {
			c := settings("example")
			c.Salt, c.Iter = []byte(salt), iter
			rings(t, fmt.Sprintf("P18.1: %q, %d", salt, iter), zoned(t, "example", l...), c, 30, names)
		}
	}
}

// TestApexes (P18.1): any apex, in any letters; owners are under it as the
// settings have it.
func TestApexes(t *testing.T) {
	long := strings.Repeat(strings.Repeat("x", 63)+".", 3) + "abcdef"
	for _, apex := range []string{"example", "EXAMPLE", "Sub.Example", "a.a.a.a", "*.example", `\.\000\255`, long} {
		c := settings(strings.ToUpper(apex))
		z := zoned(t, apex, host(apex), host("a."+apex), ns("b."+apex), ds("b."+apex), host("a.b."+apex), host("c.d."+apex))
		names := map[string]string{apex: "00 07 40 00 00 00 00 02 90", "a." + apex: hostBit, "b." + apex: safeBit, "d." + apex: none, "c.d." + apex: hostBit}
		r := rings(t, "P18.1: "+apex, z, c, 0, names)
		for s := range names {
			if x, ok := r.Match(named(s)); !ok || name.Check(x.Name) != api.OK || x.Name[0] != label(hashed(c, named(s))) {
				t.Errorf("P18.2: %s: %v, %v", s, x, ok)
			}
		}
	}
	root := settings("example")
	root.Apex = nil
	rings(t, "P18.1: the root", zoned(t, ".", host("a.b"), ns("c"), host("d.c")), root, 0, map[string]string{".": apexBit, "b": none, "a.b": hostBit, "c": cutBit})
}

// TestMatchCover (P18.2, P18.3): names of the ring are matched and not
// covered, all others are covered by the one ahead of them alone.
func TestMatchCover(t *testing.T) {
	c := settings("example")
	r := chain.New(zoned(t, "example", host("example"), host("a.example"), ns("b.example"), host("q.b.example"), host("c.c.example"), text("*.w.example")), c)
	list := r.Records()
	in := []string{"example", "a.example", "b.example", "c.example", "c.c.example", "w.example", "*.w.example", "EXAMPLE", "A.Example", "C.c.EXAMPLE"}
	out := []string{".", "net", "q.b.example", "a.a.example", "b.c.example", "*.example", "*.c.example", "x.w.example", "exampl", "example.example"}
	for i := range 300 {
		out = append(out, fmt.Sprintf("n%d.example", i), fmt.Sprintf("N%d", i))
	}
	for _, s := range in {
		x, ok := r.Match(named(s))
		if !ok || x.Name[0] != label(hashed(c, named(s))) || !slices.Contains(tells(list), told(x)) {
			t.Errorf("P18.3: Match(%s): %v, %v", s, x, ok)
		}
		if x, ok := r.Cover(named(s)); ok || told(x) != told(api.Record{}) {
			t.Errorf("P18.3: Cover(%s): %v, %v", s, x, ok)
		}
	}
	covered := map[string]int{}
	for _, s := range out {
		if x, ok := r.Match(named(s)); ok || told(x) != told(api.Record{}) {
			t.Errorf("P18.3: Match(%s): %v, %v", s, x, ok)
		}
		x, ok := r.Cover(named(s))
		var by []string
		for i, y := range list {
			h, from, next := label(hashed(c, named(s))), y.Name[0], list[(i+1)%len(list)].Name[0]
			if from < h && h < next || i == len(list)-1 && (from < h || h < next) {
				by = append(by, told(y))
			}
		}
		if !ok || len(by) != 1 || told(x) != by[0] {
			t.Errorf("P18.3: Cover(%s): %v, %v, not %v", s, x, ok, by)
		}
		covered[told(x)]++
	}
	if len(covered) != r.Len() {
		t.Errorf("%d records of %d cover something", len(covered), r.Len())
	}
}

// TestAlone (P18.2): an apex alone is ahead of itself, and covers all else.
func TestAlone(t *testing.T) {
	c := settings("example")
	r := rings(t, "P18.1", zone.New(named("example")), c, 0, map[string]string{"example": apexBit})
	parts, e := rdata.Chain(r.Records()[0].Data)
	if e != api.OK || string(parts.Next) != hashed(c, named("example")) {
		t.Errorf("P18.1: %v", parts)
	}
	for i := range 50 {
		x, ok := r.Cover(named(fmt.Sprintf("n%d.example", i)))
		if !ok || told(x) != told(r.Records()[0]) {
			t.Errorf("P18.2: %v, %v", x, ok)
		}
	}
	if x, ok := r.Match(named("Example")); !ok || told(x) != told(r.Records()[0]) {
		t.Errorf("P18.2: %v, %v", x, ok)
	}
}
