package wire

import (
	"bytes"

	"signet/api"
	"signet/name"
)

// leastSize: bytes for which there is always room.
const leastSize = 512

// optSize: bytes of an OPT without data.
const optSize = 11

// shortened: m without the sets, from the last one on, for which limit bytes
// have no room.
func shortened(m api.Message, limit int) api.Message {
	count := fitting(m, limit)
	must := len(m.Answers) + len(m.Auth)
	m.Tc = m.Tc || count < must
	m.Add = sets(m.Add, count-must)
	m.Auth = sets(m.Auth, count-len(m.Answers))
	m.Answers = sets(m.Answers, count)
	return m
}

// fitting: for how many of m's records there is room in limit bytes; -1, if
// there isn't even room for what is ahead of them. What is written of a record
// hangs on those ahead of it alone, so that one writing tells it.
func fitting(m api.Message, limit int) int {
	if m.Edns {
		limit -= optSize
	}
	w := begun(m)
	if len(w.out) > limit {
		return -1
	}
	return w.records(allRecords(m), limit)
}

// sets: those of l that lie whole among its first count records.
func sets(l []api.Record, count int) []api.Record {
	count = min(max(count, 0), len(l))
	for 0 < count && count < len(l) && together(l[count-1], l[count]) {
		count--
	}
	return l[:count]
}

// together: whether a and b are of one set.
func together(a, b api.Record) bool {
	if a.Type != b.Type || a.Class != b.Class || !name.Same(a.Name, b.Name) {
		return false
	}
	return a.Type != api.TypeRRSIG || bytes.Equal(covered(a), covered(b))
}

// covered: the bytes that tell the type that a signature covers, as far as
// its data have them.
func covered(x api.Record) []byte { return x.Data[:min(len(x.Data), 2)] }
