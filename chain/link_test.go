package chain

import (
	"slices"
	"testing"

	"signet/api"
	"signet/name"
	"signet/rdata"
	"signet/zone"
)

// TestOneHash (P18.1): of names of one hash the first in canonical order
// counts, however they come and go. No two such names are known, so the moves
// are told with hashes of the test's own.
func TestOneHash(t *testing.T) {
	apex := api.Name{"example"}
	z := zone.New(apex)
	a, b, c := api.Name{"a", "example"}, api.Name{"b", "example"}, api.Name{"a", "b", "example"}
	types := map[string]uint16{name.Text(a): 1, name.Text(b): 28, name.Text(c): 99}
	z.Put(api.Record{Name: a, Type: 1, Class: 1, Data: make([]byte, 4)})
	z.Put(api.Record{Name: b, Type: 28, Class: 1, Data: make([]byte, 16)})
	z.Put(api.Record{Name: c, Type: 99, Class: 1})
	hash := [20]byte{1, 2, 3}
	in := func(n api.Name) move { return move{hash: hash, name: n, in: true} }
	out := func(n api.Name) move { return move{hash: hash, name: n} }
	r := New(zone.New(apex), api.Config{Apex: apex})
	for i, x := range []struct {
		moves []move
		first api.Name
		told  int
	}{
		{[]move{in(c), in(a), in(b)}, a, 2}, {[]move{out(a)}, b, 1}, {[]move{in(a)}, a, 1}, {[]move{out(b)}, a, 0}, {[]move{in(b), out(a)}, b, 1}, {[]move{in(a), out(b), in(c)}, a, 1},
		{[]move{out(a), out(c)}, nil, 1}, {[]move{in(c)}, c, 2}, {[]move{in(b)}, b, 1}, {[]move{in(b), in(c)}, b, 0}, {[]move{in(a)}, a, 1}, {[]move{out(b)}, a, 0}, {[]move{out(a), out(c), in(b)}, b, 1}, {[]move{in(a), out(b)}, a, 1}, {[]move{out(a)}, nil, 1},
	} {
		r.relink(x.moves)
		told := r.retell(z, x.moves)
		at, ok := r.find(hash)
		if ok != (x.first != nil) || len(told) != x.told {
			t.Errorf("P18.1: %d: %v, %d told", i, ok, len(told))
		}
		if !ok {
			continue
		}
		parts, e := rdata.Chain(r.record(at).Data)
		if e != api.OK || r.Len() != 2 || !slices.Equal(parts.Types, slices.Sorted(slices.Values([]uint16{types[name.Text(x.first)], 46}))) {
			t.Errorf("P18.1: %d: %v of %d", i, parts, r.Len())
		}
	}
}
