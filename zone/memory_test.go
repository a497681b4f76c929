package zone_test

import (
	"bytes"
	"slices"
	"testing"

	"signet/api"
	"signet/zone"
)

// roomy: n, with labels in the spare room behind it.
func roomy(s string) api.Name {
	n := named(s)
	return append(slices.Clone(n), "spare", "room")[:len(n)]
}

// spoil: other labels in n, and in the spare room behind it.
func spoil(n api.Name) {
	n = n[:cap(n)]
	for i := range n {
		n[i] = "spoilt"
	}
}

// spoilBytes: other bytes in b, and in the spare room behind it.
func spoilBytes(b []byte) {
	b = b[:cap(b)]
	for i := range b {
		b[i] ^= 0x55
	}
}

// spoilAll: all that z answers is changed, with its spare room; z must not
// feel it.
func spoilAll(z *zone.Zone, n api.Name) {
	for _, t := range z.Types(n) {
		s, _ := z.Set(n, t)
		spoil(s.Name)
		for _, d := range s.Data {
			spoilBytes(d)
		}
		clear(s.Data[:cap(s.Data)])
	}
	types := z.Types(n)
	clear(types[:cap(types)])
	for _, x := range z.Names() {
		spoil(x)
	}
	if cut, ok := z.Cut(n); ok {
		spoil(cut)
	}
	for _, r := range z.Records() {
		spoil(r.Name)
		spoilBytes(r.Data)
	}
}

// TestKeptNothing (DOC, 3): what is handed in stays as it was, and isn't kept.
func TestKeptNothing(t *testing.T) {
	apex := roomy("Example")
	z := zone.New(apex)
	spoil(apex)
	for _, x := range []api.Record{ns("A.example", "B"), ns("a.Example", "c"), host("x.A.example", 1)} {
		n := append(slices.Clone(x.Name), "spare", "room")
		data := append(bytes.Clone(x.Data), "spare"...)
		given := api.Record{Name: n[:len(x.Name)], Type: x.Type, Class: 1, Ttl: 5, Data: data[:len(x.Data)]}
		calls := []func(){
			func() { puts(t, z, given, true, api.OK) },
			func() { puts(t, z, given, false, api.OK) },
			func() { z.Drop(given) },
			func() { z.Drop(given) },
			func() { z.Set(given.Name, given.Type) },
			func() { z.Cut(given.Name) },
			func() { z.DropSet(given.Name, 77) },
			func() { z.Types(given.Name) },
			func() { z.Has(given.Name) },
			func() { puts(t, z, given, true, api.OK) },
		}
		for i, call := range calls {
			call()
			if !slices.Equal(n, append(slices.Clone(x.Name), "spare", "room")) || string(data) != string(x.Data)+"spare" {
				t.Fatalf("DOC, 3: call %d changed what it was given", i)
			}
		}
		spoil(n)
		spoilBytes(data)
	}
	want := []api.Record{ns("a.example", "B"), ns("a.example", "c"), host("x.a.example", 1)}
	holds(t, "DOC, 3", z, want...)
	puts(t, z, host("spoilt", 1), false, api.ErrZoneName)
}

// TestNewMemory (DOC, 3): what is answered is nobody else's, neither the
// zone's, nor a copy's, nor another answer's.
func TestNewMemory(t *testing.T) {
	want := []api.Record{ns("example", "a"), ns("a.example", "B"), ns("a.example", "c"), rec("a.example", 99, 5, "x"), host("b.a.example", 1)}
	z := filled(t, want...)
	c := z.Copy()
	for _, one := range []*zone.Zone{z, c} {
		for _, s := range []string{"example", "a.example", "b.a.example"} {
			spoilAll(one, named(s))
			holds(t, "DOC, 3", z, want...)
			holds(t, "DOC, 3", c, want...)
		}
	}
}

// TestNothingShared (DOC, 3): no two lists of one answer share memory.
func TestNothingShared(t *testing.T) {
	want := []api.Record{ns("example", "a"), ns("a.example", "B"), ns("a.example", "c"), rec("a.example", 99, 5, "x"), host("b.a.example", 1)}
	z := filled(t, want...)
	records := z.Records()
	for i, r := range records {
		if told(r) != told(want[i]) {
			t.Fatalf("DOC, 3: record %d: %q", i, told(r))
		}
		spoil(r.Name)
		spoilBytes(r.Data)
	}
	names := z.Names()
	for i, s := range []string{"example.", "a.example.", "b.a.example."} {
		if got := texts(names[i : i+1])[0]; got != s {
			t.Fatalf("DOC, 3: name %d: %s", i, got)
		}
		spoil(names[i])
	}
	s, _ := z.Set(named("a.example"), 2)
	for i, data := range [][]byte{to("B"), to("c")} {
		if !bytes.Equal(s.Data[i], data) {
			t.Fatalf("DOC, 3: data %d: %q", i, s.Data[i])
		}
		spoilBytes(s.Data[i])
	}
}
