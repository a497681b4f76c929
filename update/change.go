package update

import (
	"signet/api"
	"signet/name"
	"signet/rdata"
	"signet/serial"
	"signet/zone"
)

// carryOut does what the records of l say, and tells what that changed. It
// is done to a copy first: z is touched when nothing can be refused any more.
func carryOut(z *zone.Zone, apex api.Name, l []api.Record) []api.Change {
	work := z.Copy()
	for _, r := range l {
		do(work, r)
	}
	if len(changes(z, work)) == 0 {
		return nil
	}
	putUpSerial(z, work, apex)
	done := changes(z, work)
	for _, c := range done {
		if c.Put {
			z.Put(c.R)
		} else {
			z.Drop(c.R)
		}
	}
	return done
}

// putUpSerial gives work's SOA the next serial, if it has that of z still.
func putUpSerial(z, work *zone.Zone, apex api.Name) {
	_, old, _ := soaAt(z, apex)
	r, parts, ok := soaAt(work, apex)
	if !ok || parts.Serial != old.Serial {
		return
	}
	work.Drop(r)
	parts.Serial = serial.Next(parts.Serial)
	r.Data = rdata.SoaBytes(parts)
	work.Put(r)
}

// changes: the records of z that are gone in later, then those that came. Gone
// first, so that there is room for what came.
func changes(z, later *zone.Zone) []api.Change {
	before, behind := z.Records(), later.Records()
	var out []api.Change
	for _, r := range missing(before, behind) {
		out = append(out, api.Change{R: r})
	}
	for _, r := range missing(behind, before) {
		out = append(out, api.Change{Put: true, R: r})
	}
	return out
}

// entry: a zone's record, as one value. Data are as they stand, not by Canon:
// letters may change, too.
type entry struct {
	owner string
	kind  uint16
	ttl   uint32
	data  string
}

// entryOf: r as one value.
func entryOf(r api.Record) entry {
	return entry{owner: string(name.Wire(r.Name)), kind: r.Type, ttl: r.Ttl, data: string(r.Data)}
}

// missing: those records of l that others hasn't, in l's order.
func missing(l, others []api.Record) []api.Record {
	there := map[entry]int{}
	for _, r := range others {
		there[entryOf(r)]++
	}
	var out []api.Record
	for _, r := range l {
		if there[entryOf(r)] == 0 {
			out = append(out, r)
		}
	}
	return out
}
