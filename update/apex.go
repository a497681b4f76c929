package update

import (
	"signet/api"
	"signet/zone"
)

// maxLabels: no record's name has more.
const maxLabels = api.MaxName / 2

// isApex: whether n is z's apex.
func isApex(z *zone.Zone, n api.Name) bool {
	more, ok := below(z, n)
	return ok && more == 0
}

// within: whether n is z's apex, or below it.
func within(z *zone.Zone, n api.Name) bool {
	_, ok := below(z, n)
	return ok
}

// below: how many labels n has more than z's apex; false, if n isn't within
// it. A zone doesn't tell its apex. But it refuses a record that has no class,
// and says by the error whether its name at least would have been the zone's.
// The shortest end of n that would have been is the apex; n itself may be a
// name that no record can have.
func below(z *zone.Zone, n api.Name) (int, bool) {
	for count := 0; z != nil && count <= min(len(n), maxLabels); count++ {
		more := len(n) - count
		_, e := z.Put(api.Record{Name: n[more:]})
		if e != api.ErrZoneName {
			return more, true
		}
	}
	return 0, false
}
