package update_test

import (
	"fmt"
	"math"
	"testing"

	"signet/api"
	"signet/zone"
)

// TestPut (P17.4): what comes with class IN, and what is passed over.
func TestPut(t *testing.T) {
	type list = []api.Record
	for i, x := range []struct {
		l    list
		want string
	}{
		{list{host("New.Example", "nnnn")}, "-7 +8 +new.example.1/30=nnnn"}, {list{host("ns.example", "aaaa")}, ""}, {list{rec("NS.example", 1, 31, "aaaa")}, "-7 -ns.example.1/30=aaaa +8 +ns.example.1/31=aaaa"},
		{list{rec("host.a.example", 1, 5, "dddd")}, "-7 -host.a.example.1/30=bbbb -host.a.example.1/30=cccc +8 +host.a.example.1/5=bbbb +host.a.example.1/5=cccc +host.a.example.1/5=dddd"},
		{list{host("a.example", "nnnn")}, "-7 +8 +a.example.1/30=nnnn"}, {list{host("q.sub.example", "nnnn")}, "-7 +8 +q.sub.example.1/30=nnnn"}, {list{rec("*.example", 16, 0, "\x01t")}, "-7 +8 +*.example.16/0=#0174"},
		{list{ns("example", "b"), rec("example", 2, 60, to("NS.example"))}, "-example.2/30=ns.example. -7 +example.2/60=b. +example.2/60=ns.example. +8"},
		// A CNAME stands alone.
		{list{host("alias.example", "aaaa")}, ""}, {list{rec("ALIAS.example", 43, 1, "12345")}, ""}, {list{alias("host.a.example", "x")}, ""}, {list{alias("example", "x")}, ""}, {list{alias("a.example", "x")}, "-7 +8 +a.example.5/30=x."}, {list{host("q.alias.example", "aaaa")}, "-7 +8 +q.alias.example.1/30=aaaa"},
		{list{alias("q.example", "x"), host("q.example", "aaaa")}, "-7 +8 +q.example.5/30=x."}, {list{host("q.example", "aaaa"), alias("q.example", "x")}, "-7 +8 +q.example.1/30=aaaa"},
		{list{gone("alias.example", 5), host("alias.example", "aaaa")}, "-7 -alias.example.5/30=host.a.example. +8 +alias.example.1/30=aaaa"}, {list{gone("host.a.example", 255), alias("host.a.example", "x")}, "-7 -host.a.example.1/30=bbbb -host.a.example.1/30=cccc -host.a.example.16/20=#0174 +8 +host.a.example.5/30=x."},
		{list{gone("host.a.example", 1), alias("host.a.example", "x")}, "-7 -host.a.example.1/30=bbbb -host.a.example.1/30=cccc +8"},
		// A second one stands instead of the first, with its letters.
		{list{alias("alias.example", "host.a.example")}, ""}, {list{alias("alias.example", "HOST.a.example")}, "-7 -alias.example.5/30=host.a.example. +8 +alias.example.5/30=HOST.a.example."}, {list{rec("Alias.example", 5, 1, to("x"))}, "-7 -alias.example.5/30=host.a.example. +8 +alias.example.5/1=x."},
		{list{alias("alias.example", "x"), alias("alias.example", "y")}, "-7 -alias.example.5/30=host.a.example. +8 +alias.example.5/30=y."}, {list{alias("q.example", "x"), alias("q.example", "y"), host("q.example", "aaaa")}, "-7 +8 +q.example.5/30=y."},
	} {
		applies(t, fmt.Sprintf("P17.4: %d", i), common(t), message(nil, x.l), 0, x.want)
	}
}

// TestSoa (P17.4): an SOA comes instead of the apex', if it is newer.
func TestSoa(t *testing.T) {
	up := func(serial uint32) string { return fmt.Sprintf("-7 +example.6/50=Ns.example.%d", serial) }
	for _, x := range []struct {
		serial uint32
		ok     bool
	}{{7, false}, {6, false}, {0, false}, {math.MaxUint32, false}, {8 + 1<<31, false}, {7 + 1<<31, false}, {6 + 1<<31, true}, {9, true}, {1 << 30, true}} {
		want := ""
		if x.ok {
			want = up(x.serial)
		}
		applies(t, fmt.Sprintf("P17.4: %d", x.serial), common(t), message(nil, []api.Record{soa(x.serial)}), 0, want)
	}
	type list = []api.Record
	other := rec("Example", 6, 9, soaData("x", 20))
	for i, x := range []struct {
		l    list
		want string
	}{
		{list{other}, "-7 +example.6/9=x.20"}, {list{soa(20), soa(19)}, up(20)}, {list{soa(19), soa(20)}, up(20)}, {list{soa(20), rec("example", 6, 9, soaData("x", 20))}, up(20)}, {list{rec("example", 6, 9, soaData("x", 7))}, ""},
		{list{soa(20), host("q.example", "qqqq")}, up(20) + " +q.example.1/30=qqqq"}, {list{soa(8), host("q.example", "qqqq")}, "-7 +8 +q.example.1/30=qqqq"}, {list{soa(6), host("q.example", "qqqq")}, "-7 +8 +q.example.1/30=qqqq"},
		{list{rec("a.example", 6, 9, soaData("x", 20))}, ""}, {list{rec("ns.example", 6, 9, soaData("x", 20)), host("q.example", "qqqq")}, "-7 +8 +q.example.1/30=qqqq"},
		// Serials come round: so can this one, and is put up where it is the one from before.
		{list{soa(1 << 30), soa(1 << 31), soa(3 << 30), soa(2), soa(7)}, ""}, {list{soa(1 << 30), soa(1 << 31), soa(3 << 30), soa(0)}, up(0)}, {list{soa(1 << 30), soa(1 << 31), soa(3 << 30), rec("example", 6, 9, soaData("y", 7))}, "-7 +example.6/9=y.8"},
	} {
		applies(t, fmt.Sprintf("P17.4: %d", i), common(t), message(nil, x.l), 0, x.want)
	}
}

// TestSerial (P17.4): it is put up by one, past 0; without an SOA nothing is.
func TestSerial(t *testing.T) {
	put := message(nil, []api.Record{host("q.example", "qqqq")})
	for _, x := range [][2]uint32{{0, 1}, {1, 2}, {1<<31 - 1, 1 << 31}, {1 << 31, 1<<31 + 1}, {math.MaxUint32 - 1, math.MaxUint32}, {math.MaxUint32, 1}} {
		want := fmt.Sprintf("-example.6/50=Ns.example.%d +example.6/50=Ns.example.%d +q.example.1/30=qqqq", x[0], x[1])
		if x[0] == 7 {
			want = "-7 +8 +q.example.1/30=qqqq"
		}
		z := zoned(t, "example", soa(x[0]))
		applies(t, "P17.4", z, put, 0, want)
		applies(t, "P17.4", z, put, 0, "")
	}
	z := zone.New(named("example"))
	applies(t, "P17.4", z, message(nil, []api.Record{soa(5), rec("a.example", 6, 1, soaData("x", 3)), host("q.example", "qqqq")}), 0, "+q.example.1/30=qqqq")
	z = zoned(t, "example", rec("a.example", 6, 50, soaData("x", 3)))
	applies(t, "P17.4", z, put, 0, "+q.example.1/30=qqqq")
	applies(t, "P17.4", z, message(nil, []api.Record{rec("a.example", 6, 50, soaData("x", 4))}), 0, "")
	z = zoned(t, "example", soa(7))
	for serial := uint32(7); serial < 12; serial++ {
		four := fmt.Sprintf("%04d", serial)
		want := fmt.Sprintf("-example.6/50=Ns.example.%d +example.6/50=Ns.example.%d +q.example.1/30=%s", serial, serial+1, four)
		if serial == 7 {
			want = "-7 +8 +q.example.1/30=0007"
		}
		applies(t, "P17.4", z, message(nil, []api.Record{host("q.example", four)}), 0, want)
	}
}

// TestSoaParts (P17.4): of the SOA the serial alone is put up.
func TestSoaParts(t *testing.T) {
	z := common(t)
	before, _ := z.Set(named("example"), 6)
	applies(t, "P17.4", z, message(nil, []api.Record{host("q.example", "qqqq")}), 0, "-7 +8 +q.example.1/30=qqqq")
	behind, _ := z.Set(named("example"), 6)
	if string(behind.Data[0]) != soaData("Ns.example", 8) || string(before.Data[0]) != soaData("Ns.example", 7) || behind.Ttl != 50 || len(behind.Data) != 1 {
		t.Errorf("P17.4: %v", behind)
	}
}

// TestDropSets (P17.4): class ANY takes away sets, at the apex not SOA and NS.
func TestDropSets(t *testing.T) {
	type list = []api.Record
	hosts := "-host.a.example.1/30=bbbb -host.a.example.1/30=cccc"
	for i, x := range []struct {
		l    list
		want string
	}{
		{list{gone("ns.example", 1)}, "-7 -ns.example.1/30=aaaa +8"}, {list{gone("HOST.a.example", 1)}, "-7 " + hosts + " +8"}, {list{gone("host.a.example", 255)}, "-7 " + hosts + " -host.a.example.16/20=#0174 +8"},
		{list{gone("ns.example", 16)}, ""}, {list{gone("none.example", 1)}, ""}, {list{gone("none.example", 255)}, ""}, {list{gone("a.example", 255)}, ""}, {list{gone("a.example", 1)}, ""}, {list{gone("alias.example", 1)}, ""},
		{list{gone("sub.example", 255)}, "-7 -sub.example.2/30=ns.sub.example. -sub.example.43/30=12345 +8"}, {list{gone("sub.example", 2)}, "-7 -sub.example.2/30=ns.sub.example. +8"},
		{list{gone("Example", 255)}, ""}, {list{gone("example", 2)}, ""}, {list{gone("example", 6)}, ""}, {list{gone("example", 1)}, ""},
		{list{host("example", "aaaa"), rec("example", 16, 1, "\x01t"), gone("EXAMPLE", 255), ns("example", "x")}, "-7 +example.2/30=x. +8"}, {list{host("example", "aaaa"), gone("example", 1)}, ""},
		{list{host("example", "aaaa"), gone("example", 16)}, "-7 +example.1/30=aaaa +8"},
	} {
		applies(t, fmt.Sprintf("P17.4: %d", i), common(t), message(nil, x.l), 0, x.want)
	}
	odd := func() *zone.Zone {
		return common(t, rec("example", 255, 1, "x"), rec("example", 99, 1, ""), rec("odd.example", 255, 1, "y"), rec("odd.example", 6, 1, soaData("x", 3)))
	}
	applies(t, "P17.4", odd(), message(nil, list{gone("example", 255)}), 0, "-7 -example.99/1= -example.255/1=x +8")
	applies(t, "P17.4", odd(), message(nil, list{gone("odd.example", 255)}), 0, "-7 -odd.example.6/1=x.3 -odd.example.255/1=y +8")
	applies(t, "P17.4", odd(), message(nil, list{gone("odd.example", 6)}), 0, "-7 -odd.example.6/1=x.3 +8")
	applies(t, "P17.4", zoned(t, "example", host("example", "aaaa")), message(nil, list{gone("example", 255)}), 0, "-example.1/30=aaaa")
}

// TestDrop (P17.4): class NONE takes away one record, but no SOA, and not the
// apex' last NS.
func TestDrop(t *testing.T) {
	type list = []api.Record
	for i, x := range []struct {
		l    list
		want string
	}{
		{list{not("Host.a.example", 1, "bbbb")}, "-7 -host.a.example.1/30=bbbb +8"}, {list{not("host.a.example", 1, "xxxx")}, ""}, {list{not("host.a.example", 1, "b")}, ""}, {list{not("host.a.example", 16, "bbbb")}, ""}, {list{not("none.example", 1, "bbbb")}, ""},
		{list{not("host.a.example", 1, "bbbb"), not("host.a.example", 1, "cccc"), not("host.a.example", 1, "bbbb")}, "-7 -host.a.example.1/30=bbbb -host.a.example.1/30=cccc +8"},
		{list{not("alias.example", 5, to("HOST.A.EXAMPLE"))}, "-7 -alias.example.5/30=host.a.example. +8"}, {list{not("sub.example", 2, to("NS.sub.example"))}, "-7 -sub.example.2/30=ns.sub.example. +8"},
		{list{not("example", 6, soaData("Ns.example", 7))}, ""}, {list{soa(20), not("example", 6, soaData("ns.example", 20))}, "-7 +example.6/50=Ns.example.20"},
		{list{not("example", 2, to("ns.example"))}, ""}, {list{not("example", 2, to("x"))}, ""}, {list{ns("example", "b"), not("Example", 2, to("NS.example"))}, "-example.2/30=ns.example. -7 +example.2/30=b. +8"},
		{list{ns("example", "b"), not("example", 2, to("B")), not("example", 2, to("ns.example"))}, ""}, {list{ns("example", "b"), not("example", 2, to("ns.example")), not("example", 2, to("b"))}, "-example.2/30=ns.example. -7 +example.2/30=b. +8"},
		{list{not("example", 2, to("ns.example")), ns("example", "b")}, "-7 +example.2/30=b. +8"},
	} {
		applies(t, fmt.Sprintf("P17.4: %d", i), common(t), message(nil, x.l), 0, x.want)
	}
	z := common(t, rec("odd.example", 6, 1, soaData("x", 3)))
	applies(t, "P17.4", z, message(nil, list{not("odd.example", 6, soaData("x", 3))}), 0, "")
}

// TestOrder (P17.4): records are done one behind the other.
func TestOrder(t *testing.T) {
	type list = []api.Record
	q, r := host("q.example", "qqqq"), host("q.example", "rrrr")
	for i, x := range []struct {
		l    list
		want string
	}{
		{list{q, gone("q.example", 1), r}, "-7 +8 +q.example.1/30=rrrr"}, {list{q, r, gone("q.example", 1)}, ""}, {list{not("q.example", 1, "qqqq"), q}, "-7 +8 +q.example.1/30=qqqq"}, {list{q, not("q.example", 1, "qqqq")}, ""},
		{list{q, rec("q.example", 1, 9, "rrrr"), not("q.example", 1, "rrrr")}, "-7 +8 +q.example.1/9=qqqq"}, {list{alias("q.example", "x"), gone("q.example", 255), q}, "-7 +8 +q.example.1/30=qqqq"},
	} {
		applies(t, fmt.Sprintf("P17.4: %d", i), common(t), message(nil, x.l), 0, x.want)
	}
}
