package zone

import (
	"bytes"
	"maps"
	"slices"

	"signet/api"
	"signet/name"
)

// node: what stands at a name, by types, and the names below it, by the one
// label (in small letters) that they have more. To go through the labels in
// their order, each node ahead of those below it, is canonical order. All but
// the top has something at or below it.
type node struct {
	sets  map[uint16]set
	below map[string]*node
}

// set: records of one name and type: their data as they stand, by Canon.
type set struct {
	ttl  uint32
	data map[string][]byte
}

func newNode() *node {
	return &node{sets: map[uint16]set{}, below: map[string]*node{}}
}

// way: the nodes from the top on towards n, as far as there are any.
func (z *Zone) way(n api.Name) []*node {
	at := z.top
	out := []*node{at}
	for _, label := range slices.Backward(name.Lower(n)) {
		next, ok := at.below[label]
		if !ok {
			break
		}
		at = next
		out = append(out, at)
	}
	return out
}

// find: n's node; one that isn't of the zone, and empty, where there is none.
func (z *Zone) find(n api.Name) *node {
	way := z.way(n)
	if len(way) <= len(n) {
		return newNode()
	}
	return way[len(n)]
}

// grow: n's node, which is made where there is none.
func (z *Zone) grow(n api.Name) *node {
	at := z.top
	for _, label := range slices.Backward(name.Lower(n)) {
		next, ok := at.below[label]
		if !ok {
			next = newNode()
			at.below[label] = next
		}
		at = next
	}
	return at
}

// trim takes away the nodes on the way to n that have become empty.
func (z *Zone) trim(n api.Name) {
	small := name.Lower(n)
	way := z.way(small)
	for depth := len(way) - 1; depth > 0 && way[depth].empty(); depth-- {
		delete(way[depth-1].below, small[len(small)-depth])
	}
}

// empty: whether nothing stands at or below the node.
func (at *node) empty() bool { return len(at.sets) == 0 && len(at.below) == 0 }

// put lets r, whose data are canon by Canon, stand at the node.
func (at *node) put(r api.Record, canon []byte) {
	s, ok := at.sets[r.Type]
	if !ok {
		s.data = map[string][]byte{}
	}
	if !s.has(canon) {
		s.data[string(canon)] = bytes.Clone(r.Data)
	}
	s.ttl = r.Ttl
	at.sets[r.Type] = s
}

// drop takes away the data that are canon by Canon, and the set with its last ones.
func (at *node) drop(t uint16, canon []byte) {
	s := at.sets[t]
	delete(s.data, string(canon))
	if len(s.data) == 0 {
		delete(at.sets, t)
	}
}

// names: those at and below the node, whose own is n, at which a record stands.
func (at *node) names(n api.Name) []api.Name {
	var out []api.Name
	if len(at.sets) > 0 {
		out = append(out, n)
	}
	for _, label := range slices.Sorted(maps.Keys(at.below)) {
		longer := append(api.Name{label}, n...)
		out = append(out, at.below[label].names(longer)...)
	}
	return out
}

// clone: another node, and others below it. Data are shared: none are ever
// changed where they stand.
func (at *node) clone() *node {
	out := newNode()
	for t, s := range at.sets {
		out.sets[t] = set{ttl: s.ttl, data: maps.Clone(s.data)}
	}
	for label, next := range at.below {
		out.below[label] = next.clone()
	}
	return out
}

// has: whether data that are canon by Canon stand there.
func (s set) has(canon []byte) bool {
	_, ok := s.data[string(canon)]
	return ok
}

// list: the data, in order of Canon's bytes.
func (s set) list() [][]byte {
	var out [][]byte
	for _, canon := range slices.Sorted(maps.Keys(s.data)) {
		out = append(out, bytes.Clone(s.data[canon]))
	}
	return out
}
