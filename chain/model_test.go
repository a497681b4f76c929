package chain_test

import (
	"fmt"
	"math/rand"
	"slices"
	"strings"
	"testing"

	"signet/api"
	"signet/chain"
	"signet/name"
	"signet/rdata"
	"signet/rtype"
	"signet/zone"
)

// model: the ring of z in the chapter's words, over a list of z's records: the
// names with their bitmaps, and the time to live.
func model(z *zone.Zone, c api.Config) (map[string]string, uint32) {
	apex := name.Lower(c.Apex)
	types := map[string][]uint16{name.Text(apex): nil}
	cuts := map[string]bool{}
	for _, r := range z.Records() {
		for k := range len(r.Name) - len(apex) {
			types[name.Text(r.Name[k:])] = nil
		}
		if r.Type == api.TypeNS && len(r.Name) > len(apex) {
			cuts[name.Text(r.Name)] = true
		}
	}
	for _, r := range z.Records() {
		types[name.Text(r.Name)] = append(types[name.Text(r.Name)], r.Type)
	}
	out := map[string]string{}
	for s, l := range types {
		n := named(s)
		hidden := false
		for k := 1; k < len(n); k++ {
			hidden = hidden || cuts[name.Text(n[k:])]
		}
		if hidden {
			continue
		}
		if cuts[s] {
			l = slices.DeleteFunc(l, func(t uint16) bool { return t != 2 && t != 43 })
		}
		if len(l) > 0 && (!cuts[s] || slices.Contains(l, 43)) {
			l = append(l, 46)
		}
		if len(n) == len(apex) {
			l = append(l, 46, 48, 51)
		}
		out[s] = fmt.Sprintf("%x", rtype.Bitmap(l))
	}
	ttl := uint32(0)
	if set, ok := z.Set(apex, 6); ok {
		parts, _ := rdata.Soa(set.Data[0])
		ttl = min(set.Ttl, parts.Minimum, c.MaxTtl)
	}
	return out, ttl
}

// change: r came to z, or went from it; whether it did.
func change(z *zone.Zone, put bool, r api.Record) (api.Change, bool) {
	if put {
		ok, e := z.Put(r)
		return api.Change{Put: true, R: r}, ok && e == api.OK
	}
	return api.Change{R: r}, z.Drop(r)
}

// follows: r, told of the changes l, is z's ring, and tells what is new or
// other than before.
func follows(t *testing.T, promise string, r *chain.Ring, z *zone.Zone, c api.Config, l []api.Change) []api.Record {
	t.Helper()
	before := tells(r.Records())
	got := r.Update(z, l)
	names, ttl := model(z, c)
	now := wanted(c, ttl, names)
	if !slices.Equal(tells(r.Records()), now) || r.Len() != len(now) {
		t.Fatalf("%s: behind %v:\n%s\nnot\n%s", promise, l, strings.Join(tells(r.Records()), "\n"), strings.Join(now, "\n"))
	}
	other := slices.DeleteFunc(now, func(s string) bool { return slices.Contains(before, s) })
	if !slices.Equal(tells(got), other) {
		t.Fatalf("%s: behind %v:\n%s\ntold, not\n%s", promise, l, strings.Join(tells(got), "\n"), strings.Join(other, "\n"))
	}
	return got
}

// anyName: one of few, within the apex.
func anyName(r *rand.Rand, apex api.Name) api.Name {
	var n api.Name
	for range r.Intn(4) {
		n = append(n, []string{"a", "A", "b", "*", "ab"}[r.Intn(5)])
	}
	return append(n, apex...)
}

// anyRecord: one of few.
func anyRecord(r *rand.Rand, apex api.Name) api.Record {
	out := api.Record{Name: anyName(r, apex), Type: []uint16{1, 1, 2, 2, 2, 6, 16, 43, 99, 255, 1000}[r.Intn(11)], Class: 1, Ttl: uint32(r.Intn(3))}
	switch out.Type {
	case 1:
		out.Data = []byte{0, 0, 0, byte(r.Intn(2))}
	case 2:
		out.Data = name.Wire(api.Name{[]string{"a", "b", "B"}[r.Intn(3)]})
	case 6:
		out.Data = rdata.SoaBytes(api.Soa{Main: api.Name{[]string{"a", "b"}[r.Intn(2)]}, Minimum: uint32(r.Intn(3))})
	case 16:
		out.Data = []byte("\x01t")
	case 43:
		out.Data = []byte("12345")
	}
	return out
}

// anyChanges: what r does to z; what is put or dropped by sets is told record
// by record, and some of it comes and goes again.
func anyChanges(r *rand.Rand, z *zone.Zone, apex api.Name) []api.Change {
	var out []api.Change
	for range r.Intn(4) {
		one, ok := change(z, r.Intn(5) > 1, anyRecord(r, apex))
		if ok {
			out = append(out, one)
		}
		all := z.Records()
		if len(all) == 0 || r.Intn(3) > 0 {
			continue
		}
		n := all[r.Intn(len(all))].Name
		for _, x := range all {
			if name.Same(x.Name, n) || r.Intn(40) == 0 {
				one, _ := change(z, false, x)
				out = append(out, one)
			}
		}
	}
	if r.Intn(4) == 0 {
		// Their order says nothing: those of a name's records may stand anywhere.
		r.Shuffle(len(out), func(i, k int) { out[i], out[k] = out[k], out[i] })
	}
	return out
}

// TestLives (P18.1 to P18.3): any lives, against the model; what it told was
// told for good, though z goes on.
func TestLives(t *testing.T) {
	for seed := range int64(60) {
		r := rand.New(rand.NewSource(seed))
		c := settings([]string{"example", "EXAMPLE", "b.a"}[seed%3])
		c.Iter, c.MaxTtl = uint16(seed%2), uint32(seed%4)
		z := zone.New(name.Lower(c.Apex))
		ring := chain.New(z, c)
		for range 60 {
			before := tells(ring.Records())
			l := anyChanges(r, z, c.Apex)
			if !slices.Equal(tells(ring.Records()), before) {
				t.Fatal("P18.2: a ring goes on with Update alone")
			}
			follows(t, "P18.2", ring, z, c, l)
			finds(t, ring, c, anyName(r, c.Apex))
			if r.Intn(20) == 0 {
				ring = chain.New(z, c)
			}
		}
	}
}

// finds: n is matched, or covered, by the right record.
func finds(t *testing.T, r *chain.Ring, c api.Config, n api.Name) {
	t.Helper()
	list := r.Records()
	h := label(hashed(c, n))
	at := slices.IndexFunc(list, func(x api.Record) bool { return x.Name[0] == h })
	match, matched := r.Match(n)
	cover, covered := r.Cover(n)
	switch {
	case at >= 0 && (!matched || covered || told(match) != told(list[at]) || told(cover) != told(api.Record{})):
		t.Fatalf("P18.3: %q: %v, %v", n, match, cover)
	case at >= 0:
		return
	}
	at = len(list) - 1
	for i, x := range list {
		if x.Name[0] < h {
			at = i
		}
	}
	if matched || !covered || told(cover) != told(list[at]) || told(match) != told(api.Record{}) {
		t.Fatalf("P18.3: %q: %v, %v", n, match, cover)
	}
}
