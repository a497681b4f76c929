package update

import (
	"signet/api"
	"signet/rdata"
	"signet/serial"
	"signet/zone"
)

// do changes z as r says, whose class tells how.
func do(z *zone.Zone, r api.Record) {
	switch r.Class {
	case api.ClassIN:
		put(z, r)
	case api.ClassANY:
		dropSets(z, r)
	case api.ClassNONE:
		drop(z, r)
	}
}

// put lets r stand in z, where it may.
func put(z *zone.Zone, r api.Record) {
	if clashes(z, r) || r.Type == api.TypeSOA && !isNewer(z, r) {
		return
	}
	if r.Type == api.TypeCNAME || r.Type == api.TypeSOA {
		z.DropSet(r.Name, r.Type)
	}
	_, e := z.Put(r)
	refuseIf(e == api.ErrZoneFull, api.CodeServ)
}

// clashes: whether a CNAME would stand beside another type.
func clashes(z *zone.Zone, r api.Record) bool {
	for _, t := range z.Types(r.Name) {
		if (t == api.TypeCNAME) != (r.Type == api.TypeCNAME) {
			return true
		}
	}
	return false
}

// isNewer: whether r, an SOA, is to follow one at the apex.
func isNewer(z *zone.Zone, r api.Record) bool {
	_, old, ok := soaAt(z, r.Name)
	if !ok || !isApex(z, r.Name) {
		return false
	}
	parts, _ := rdata.Soa(r.Data)
	order, _ := serial.Compare(parts.Serial, old.Serial)
	return order > 0
}

// dropSets takes away r's set, or all sets at its name, but for what the apex
// must have. They go one record after another, since a DropSet for type ANY,
// of which there may be records too, would take all.
func dropSets(z *zone.Zone, r api.Record) {
	apex := isApex(z, r.Name)
	for _, t := range z.Types(r.Name) {
		asked := r.Type == t || r.Type == api.TypeANY
		needed := apex && (t == api.TypeSOA || t == api.TypeNS)
		if !asked || needed {
			continue
		}
		set, _ := z.Set(r.Name, t)
		for _, data := range set.Data {
			z.Drop(api.Record{Name: r.Name, Type: t, Data: data})
		}
	}
}

// drop takes r away, unless that is what the apex must have.
func drop(z *zone.Zone, r api.Record) {
	if r.Type == api.TypeSOA {
		return
	}
	if r.Type == api.TypeNS && isApex(z, r.Name) {
		servers, _ := z.Set(r.Name, api.TypeNS)
		if len(servers.Data) == 1 {
			return
		}
	}
	z.Drop(r)
}

// soaAt: n's SOA (the first one, were there several), whole and in parts.
func soaAt(z *zone.Zone, n api.Name) (api.Record, api.Soa, bool) {
	set, ok := z.Set(n, api.TypeSOA)
	if !ok {
		return api.Record{}, api.Soa{}, false
	}
	parts, _ := rdata.Soa(set.Data[0])
	r := api.Record{Name: set.Name, Type: api.TypeSOA, Class: api.ClassIN, Ttl: set.Ttl, Data: set.Data[0]}
	return r, parts, true
}
