package update

import (
	"bytes"
	"slices"

	"signet/api"
	"signet/rdata"
	"signet/zone"
)

// askPrereqs refuses, unless all prerequisites of l hold of z.
func askPrereqs(z *zone.Zone, l []api.Record) {
	// The sets that must be just so are gathered as a zone, which puts their
	// records together as z does. One that it can't take, since the name may
	// not be or there are too many, z can't have either.
	wanted := zone.New(nil)
	hold := true
	for _, r := range l {
		askPrereq(z, r)
		if r.Class == api.ClassIN {
			_, e := wanted.Put(r)
			hold = hold && e == api.OK
		}
	}
	refuseIf(!hold || !hasSets(z, wanted), api.CodeNXSet)
}

// askPrereq refuses, unless r is a prerequisite, and holds of z as far as it
// can be told of r alone.
func askPrereq(z *zone.Zone, r api.Record) {
	refuseIf(r.Ttl != 0, api.CodeForm)
	refuseIf(!within(z, r.Name), api.CodeNotZone)
	switch r.Class {
	case api.ClassANY:
		refuseIf(len(r.Data) > 0, api.CodeForm)
		refuseIf(!stands(z, r), either(r, api.CodeNX, api.CodeNXSet))
	case api.ClassNONE:
		refuseIf(len(r.Data) > 0, api.CodeForm)
		refuseIf(stands(z, r), either(r, api.CodeYXDomain, api.CodeYXSet))
	case api.ClassIN:
		refuseIf(rdata.Check(r.Type, r.Data) != api.OK, api.CodeForm)
	default:
		refuseIf(true, api.CodeForm)
	}
}

// stands: whether z has a record of r's name and type, or of any type, if r
// asks for that.
func stands(z *zone.Zone, r api.Record) bool {
	types := z.Types(r.Name)
	if r.Type == api.TypeANY {
		return len(types) > 0
	}
	return slices.Contains(types, r.Type)
}

// either: the code for a name, if r asks for any type, or that for a set.
func either(r api.Record, ofName, ofSet int) int {
	if r.Type == api.TypeANY {
		return ofName
	}
	return ofSet
}

// hasSets: whether each set of wanted is one of z's, with just these data.
func hasSets(z, wanted *zone.Zone) bool {
	for _, n := range wanted.Names() {
		for _, t := range wanted.Types(n) {
			want, _ := wanted.Set(n, t)
			got, _ := z.Set(n, t)
			if !sameData(want, got) {
				return false
			}
		}
	}
	return true
}

// sameData: whether two sets of one type have the same data, by Canon; its
// order is that of both.
func sameData(a, b api.Set) bool {
	return slices.EqualFunc(a.Data, b.Data, func(x, y []byte) bool {
		canonX, _ := rdata.Canon(a.Type, x)
		canonY, _ := rdata.Canon(a.Type, y)
		return bytes.Equal(canonX, canonY)
	})
}
