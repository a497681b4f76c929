package update

import (
	"signet/api"
	"signet/name"
	"signet/rdata"
	"signet/zone"
)

// askUpdates refuses, unless all records of l may be updates of z.
func askUpdates(z *zone.Zone, maxTtl uint32, l []api.Record) {
	for _, r := range l {
		refuseIf(!within(z, r.Name), api.CodeNotZone)
		refuseIf(!wellFormed(r), api.CodeForm)
		refuseIf(ofSigning(r.Type), api.CodeRefused)
		refuseIf(r.Class == api.ClassIN && !mayStand(z, maxTtl, r), api.CodeRefused)
	}
}

// wellFormed: whether r says, by its class, what is to be done.
func wellFormed(r api.Record) bool {
	switch r.Class {
	case api.ClassIN:
		return r.Type != api.TypeANY && r.Type != api.TypeOPT && rdata.Check(r.Type, r.Data) == api.OK
	case api.ClassANY:
		return r.Ttl == 0 && len(r.Data) == 0 && r.Type != api.TypeOPT
	case api.ClassNONE:
		return r.Ttl == 0 && r.Type != api.TypeANY && r.Type != api.TypeOPT
	}
	return false
}

// ofSigning: whether records of type t are the server's own business.
func ofSigning(t uint16) bool {
	switch t {
	case api.TypeRRSIG, api.TypeDNSKEY, api.TypeNSEC3, api.TypeNSEC3PARAM:
		return true
	}
	return false
}

// mayStand: whether r may come into z.
func mayStand(z *zone.Zone, maxTtl uint32, r api.Record) bool {
	switch {
	case r.Ttl > maxTtl:
		return false
	case r.Type == api.TypeDS:
		return !isApex(z, r.Name)
	case r.Type == api.TypeNS:
		return !name.Wild(r.Name)
	}
	return true
}
