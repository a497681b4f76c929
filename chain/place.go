package chain

import (
	"slices"

	"signet/api"
	"signet/name"
	"signet/zone"
)

// place: what a name within the apex is.
type place struct {
	name api.Name // in small letters
	kind kind
	hash [20]byte // of a name of the ring
}

// kind: of a name within the apex.
type kind int

const (
	absent kind = iota // no record stands there, nor below it
	open               // of the ring
	cut                // of the ring, but the names below it aren't
	below              // below a cut
)

// linked: whether it is of the ring.
func (k kind) linked() bool { return k == open || k == cut }

// byName: places in canonical order.
func byName(a, b *place) int { return name.Compare(a.name, b.name) }

// findPlace: where the place of n is, or would be.
func (r *Ring) findPlace(n api.Name) (int, bool) {
	return slices.BinarySearchFunc(r.places, &place{name: n}, byName)
}

// known: the place of n, as the ring was told last.
func (r *Ring) known(n api.Name) *place {
	at, ok := r.findPlace(n)
	if !ok {
		return &place{}
	}
	return r.places[at]
}

// kindIn: what n, which is within the apex, is in z.
func (r *Ring) kindIn(z *zone.Zone, n api.Name) kind {
	at, ok := z.Cut(n)
	switch {
	case len(n) == len(r.small):
		return open
	case !z.Has(n):
		return absent
	case !ok:
		return open
	case len(at) == len(n):
		return cut
	}
	return below
}

// touched: the names changed, those above them, and those below where what is
// below is of the ring now, or was: each once, in canonical order.
func (r *Ring) touched(z *zone.Zone, changed []api.Name) []api.Name {
	names := r.ways(changed)
	out := slices.Clone(names)
	end := 0
	for _, n := range names {
		// Where n wasn't known, nothing below it was.
		at, ok := r.findPlace(n)
		if !ok || at < end || (r.places[at].kind == open) == (r.kindIn(z, n) == open) {
			continue
		}
		for end = at; end < len(r.places) && name.Within(r.places[end].name, n); end++ {
			out = append(out, r.places[end].name)
		}
	}
	if len(out) > len(names) {
		slices.SortFunc(out, name.Compare)
	}
	return slices.CompactFunc(out, name.Same)
}

// ways: the apex, those of the names changed that are within it, and those
// between: each once, in canonical order.
func (r *Ring) ways(changed []api.Name) []api.Name {
	var names []api.Name
	for _, n := range changed {
		if name.Check(n) == api.OK && name.Within(n, r.small) {
			names = append(names, name.Lower(n))
		}
	}
	slices.SortFunc(names, name.Compare)
	last := r.small
	out := []api.Name{last}
	for _, n := range names {
		// What n and the last name have in common was taken with that.
		for size := common(last, n) + 1; size <= len(n); size++ {
			out = append(out, n[len(n)-size:])
		}
		last = n
	}
	return out
}

// common: how many of their last labels a and b, in small letters, have in common.
func common(a, b api.Name) int {
	count := 0
	for count < min(len(a), len(b)) && a[len(a)-1-count] == b[len(b)-1-count] {
		count++
	}
	return count
}
