package update_test

import (
	"math"
	"strings"
	"testing"

	"signet/api"
	"signet/update"
	"signet/zone"
)

// right: data that rdata.Check takes, of types that have a form.
func right(t uint16) string {
	switch t {
	case 1:
		return "aaaa"
	case 2, 5:
		return to("x")
	case 6:
		return soaData("x", 1)
	case 15:
		return "00" + to("x")
	case 16:
		return "\x01t"
	case 28:
		return strings.Repeat("aaaa", 4)
	case 43:
		return "12345"
	case 46:
		return strings.Repeat("\x00", 19)
	case 48:
		return "1234"
	case 50:
		return "1234\x00\x01n"
	case 51:
		return "1234\x00"
	}
	return ""
}

// TestScanTypes (P17.3): each type in each class.
func TestScanTypes(t *testing.T) {
	z := common(t)
	for kind := range uint16(300) {
		in, any, none := 0, 0, 0
		switch kind {
		case 255:
			in, none = 1, 1
		case 41:
			in, any, none = 1, 1, 1
		case 46, 48, 50, 51:
			in, any, none = 5, 5, 5
		}
		for _, class := range []uint16{0, 1, 2, 3, 253, 254, 255, 256, 257, 65535} {
			want, text := 1, right(kind)
			switch class {
			case 1:
				want = in
			case 254:
				want = none
			case 255:
				want, text = any, ""
			}
			if code := update.Scan(z, 60, []api.Record{of("x.example", kind, class, text)}); code != want {
				t.Errorf("P17.3: type %d, class %d: %d, not %d", kind, class, code, want)
			}
			if code := update.Scan(z, 60, []api.Record{of("x.net", kind, class, text)}); code != 10 {
				t.Errorf("P17.3: type %d, class %d: %d, not 10", kind, class, code)
			}
		}
	}
}

// TestScan (P17.3): what may be, and which code is the first one.
func TestScan(t *testing.T) {
	z := common(t)
	for i, x := range []struct {
		r    api.Record
		code int
	}{
		// IN: data, types, times.
		{rec("x.example", 1, 61, "aaa"), 1}, {rec("x.example", 46, 61, ""), 1}, {rec("x.example", 48, 1, "123"), 1}, {rec("x.example", 51, 1, ""), 1}, {rec("x.example", 255, 61, ""), 1}, {rec("x.example", 41, 61, ""), 1},
		{rec("x.example", 1, 0, "aaaa"), 0}, {rec("x.example", 1, 60, "aaaa"), 0}, {rec("x.example", 1, 61, "aaaa"), 5}, {rec("x.example", 1, math.MaxUint32, "aaaa"), 5}, {rec("x.example", 1, 1<<31, "aaaa"), 5},
		{rec("x.example", 99, 1, strings.Repeat("x", 8192)), 0}, {rec("x.example", 99, 1, strings.Repeat("x", 8193)), 1},
		// DS at the apex, NS at a *.
		{rec("example", 43, 1, "12345"), 5}, {rec("EXAMPLE", 43, 1, "12345"), 5}, {rec("x.example", 43, 1, "12345"), 0}, {rec("sub.example", 43, 1, "12345"), 0}, {rec("*.example", 43, 1, "12345"), 0}, {rec("example", 43, 1, "1234"), 1}, {rec("example.example", 43, 1, "12345"), 0},
		{ns("*.example", "x"), 5}, {ns("*.a.example", "x"), 5}, {ns("a.*.example", "x"), 0}, {ns("**.example", "x"), 0}, {ns("*a.example", "x"), 0}, {ns("example", "x"), 0}, {rec("*.example", 2, 1, ""), 1}, {alias("*.example", "x"), 0}, {soa(1), 0}, {rec("x.example", 6, 1, soaData("x", 1)), 0},
		// ANY, NONE: these aren't asked there.
		{gone("example", 43), 0}, {gone("*.example", 2), 0}, {not("example", 43, "12345"), 0}, {not("*.example", 2, to("x")), 0}, {gone("example", 255), 0}, {gone("example", 6), 0}, {gone("example", 2), 0},
		{of("x.example", 1, 255, "x"), 1}, {of("x.example", 255, 255, "x"), 1}, {of("x.example", 46, 255, "x"), 1}, {not("x.example", 1, ""), 0}, {not("x.example", 5, "\x01"), 0}, {not("x.example", 46, ""), 5},
		{api.Record{Name: named("x.example"), Type: 1, Class: 255, Ttl: 1}, 1}, {api.Record{Name: named("x.example"), Type: 1, Class: 254, Ttl: 1, Data: []byte("aaaa")}, 1}, {api.Record{Name: named("x.example"), Type: 46, Class: 255, Ttl: 1}, 1}, {api.Record{Name: named("x.example"), Type: 46, Class: 254, Ttl: 1}, 1},
		// Names.
		{host("far", "aaaa"), 10}, {host(".", "aaaa"), 10}, {host("xexample", "aaaa"), 10}, {host("example.net", "aaaa"), 10}, {host("X.Example", "aaaa"), 0}, {rec("far", 46, 61, ""), 10},
	} {
		if code := update.Scan(z, 60, []api.Record{x.r}); code != x.code {
			t.Errorf("P17.3: %d: %d, not %d", i, code, x.code)
		}
	}
}

// TestScanOrder (P17.3): the first record that may not be.
func TestScanOrder(t *testing.T) {
	z := common(t)
	good, form, refused, far := host("x.example", "aaaa"), host("x.example", "aaa"), rec("x.example", 1, 61, "aaaa"), host("far", "aaaa")
	for i, x := range []struct {
		l    []api.Record
		code int
	}{
		{nil, 0}, {[]api.Record{good, good}, 0}, {[]api.Record{good, form, refused, far}, 1}, {[]api.Record{good, refused, form, far}, 5}, {[]api.Record{far, form, refused}, 10}, {[]api.Record{good, good, far, refused}, 10}, {[]api.Record{good, good, good, refused}, 5},
	} {
		if code := update.Scan(z, 60, x.l); code != x.code {
			t.Errorf("P17.3: %d: %d, not %d", i, code, x.code)
		}
	}
}

// TestMaxTtl (P17.3): the greatest time to live is what the caller says.
func TestMaxTtl(t *testing.T) {
	z := common(t)
	for _, most := range []uint32{0, 1, 60, 1<<31 - 1, 1 << 31, math.MaxUint32} {
		for _, ttl := range []uint32{0, 1, 2, 60, 61, 1<<31 - 1, 1 << 31, 1<<31 + 1, math.MaxUint32} {
			want := 0
			if ttl > most {
				want = 5
			}
			l := []api.Record{rec("x.example", 1, ttl, "aaaa")}
			code, _ := update.Apply(z.Copy(), most, message(nil, l))
			if scanned := update.Scan(z, most, l); scanned != want || code != want {
				t.Errorf("P17.3: %d of at most %d: %d, %d", ttl, most, scanned, code)
			}
		}
	}
}

// TestScanRoot (P17.3): in a zone of the root each name is within the apex.
func TestScanRoot(t *testing.T) {
	z := zone.New(nil)
	for i, x := range []struct {
		r    api.Record
		code int
	}{{host(".", "aaaa"), 0}, {host("net", "aaaa"), 0}, {rec(".", 43, 1, "12345"), 5}, {rec("net", 43, 1, "12345"), 0}, {ns("*", "x"), 5}, {ns(".", "x"), 0}} {
		if code := update.Scan(z, 60, []api.Record{x.r}); code != x.code {
			t.Errorf("P17.3: %d: %d, not %d", i, code, x.code)
		}
	}
}
