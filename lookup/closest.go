package lookup

import (
	"slices"

	"signet/api"
	"signet/zone"
)

// maxLabels: no record's name has more.
const maxLabels = api.MaxName / 2

// Closest: the longest name at or above n that z has, its apex at least, and
// the one that has one label more of n's, if there is one.
func Closest(z *zone.Zone, n api.Name) (api.Name, api.Name) {
	apex, _ := apexAbove(z, n)
	count := len(apex)
	for z != nil && count < len(n) && z.Has(last(n, count+1)) {
		count++
	}
	return last(n, count), last(n, min(count+1, len(n)))
}

// apexAbove: z's apex, as n has it; false, if n isn't within it. A zone doesn't
// tell its apex. But it refuses a record that has no class, and says by the
// error whether its name at least would have been the zone's.
func apexAbove(z *zone.Zone, n api.Name) (api.Name, bool) {
	for count := 0; z != nil && count <= min(len(n), maxLabels); count++ {
		above := last(n, count)
		_, e := z.Put(api.Record{Name: above})
		if e != api.ErrZoneName {
			return above, true
		}
	}
	return nil, false
}

// last: a name of n's last labels, so many.
func last(n api.Name, count int) api.Name { return slices.Clone(n[len(n)-count:]) }
