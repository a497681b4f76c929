package chain

import (
	"bytes"
	"slices"

	"signet/api"
	"signet/digest"
	"signet/name"
	"signet/rdata"
	"signet/zone"
)

// link: what stands at a hash.
type link struct {
	hash  [20]byte
	owner api.Name
	names []api.Name // whose hash it is, in canonical order: the first one counts
	data  []byte     // as they were told last
}

// move: a name that is of the ring now, or isn't any more.
type move struct {
	hash [20]byte
	name api.Name
	in   bool
}

// byHash: links in order of hashes.
func byHash(a, b *link) int { return bytes.Compare(a.hash[:], b.hash[:]) }

// hash: n's.
func (r *Ring) hash(n api.Name) [20]byte { return digest.Hash(n, r.salt, int(r.iter)) }

// find: where the link of a hash is, or would be.
func (r *Ring) find(hash [20]byte) (int, bool) {
	return slices.BinarySearchFunc(r.links, &link{hash: hash}, byHash)
}

// ahead: where the link is that is ahead of that at at, round the end.
func (r *Ring) ahead(at int) int { return (at + len(r.links) - 1) % len(r.links) }

// record: that of the link at at.
func (r *Ring) record(at int) api.Record {
	l := r.links[at]
	return api.Record{Name: slices.Clone(l.owner), Type: api.TypeNSEC3, Class: api.ClassIN, Ttl: r.ttl, Data: bytes.Clone(l.data)}
}

// relink does the moves.
func (r *Ring) relink(moves []move) {
	slices.SortStableFunc(moves, func(a, b move) int { return bytes.Compare(a.hash[:], b.hash[:]) })
	var edits []edit[*link]
	for i, m := range moves {
		if i == 0 || m.hash != moves[i-1].hash {
			edits = append(edits, edit[*link]{it: r.linkOf(m)})
		}
		last := &edits[len(edits)-1]
		last.it.turn(m)
		last.keep = len(last.it.names) > 0
	}
	r.links = spliced(r.links, edits, byHash)
}

// linkOf: the link of m's hash; one without names, where there is none.
func (r *Ring) linkOf(m move) *link {
	at, ok := r.find(m.hash)
	if ok {
		return r.links[at]
	}
	return &link{hash: m.hash, owner: digest.Owner(m.name, r.apex, r.salt, int(r.iter))}
}

// turn does a move among the link's names.
func (l *link) turn(m move) {
	at, there := slices.BinarySearchFunc(l.names, m.name, name.Compare)
	switch {
	case m.in && !there:
		l.names = slices.Insert(l.names, at, m.name)
	case !m.in && there:
		l.names = slices.Delete(l.names, at, at+1)
	}
}

// retell: behind the moves, the records whose data are other than they were
// told last: they are where a name moved, or just ahead.
func (r *Ring) retell(z *zone.Zone, moves []move) []api.Record {
	var places []int
	for _, m := range moves {
		at, ok := r.find(m.hash)
		if ok {
			places = append(places, at)
		}
		places = append(places, r.ahead(at))
	}
	slices.Sort(places)
	var out []api.Record
	for _, at := range slices.Compact(places) {
		l, data := r.links[at], r.data(z, at)
		if !bytes.Equal(data, l.data) {
			l.data = data
			out = append(out, r.record(at))
		}
	}
	return out
}

// data: those of the link at at.
func (r *Ring) data(z *zone.Zone, at int) []byte {
	next := r.links[(at+1)%len(r.links)].hash
	return rdata.ChainBytes(api.Chain{Hash: api.HashSha, Iter: r.iter, Salt: r.salt, Next: next[:], Types: r.types(z, r.links[at].names[0])})
}

// types: those that n's record tells.
func (r *Ring) types(z *zone.Zone, n api.Name) []uint16 {
	types, is := z.Types(n), r.known(n).kind
	switch {
	case len(n) == len(r.small):
		return append(types, api.TypeRRSIG, api.TypeDNSKEY, api.TypeNSEC3PARAM)
	case is == cut && slices.Contains(types, api.TypeDS):
		return []uint16{api.TypeNS, api.TypeDS, api.TypeRRSIG}
	case is == cut:
		return []uint16{api.TypeNS}
	case len(types) > 0:
		return append(types, api.TypeRRSIG)
	}
	return nil
}

// ttlOf: the records' time to live.
func (r *Ring) ttlOf(z *zone.Zone) uint32 {
	set, ok := z.Set(r.small, api.TypeSOA)
	if !ok {
		return 0
	}
	// No error: a zone has no other data of that type.
	soa, _ := rdata.Soa(set.Data[0])
	return min(set.Ttl, soa.Minimum, r.maxTtl)
}
