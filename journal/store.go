package journal

import (
	"bytes"
	"slices"

	"signet/api"
	"signet/disk"
)

// The first sectors are slots for heads, in turns: the newest head is left
// alone while the next one is written. Two areas of as many sectors each follow.
const (
	slotCount = 2
	areaCount = 2
)

// store: a disk as a journal goes about it. Where the disk refuses, or what it
// has isn't a journal's, a panic tells the error.
type store struct{ disk *disk.Disk }

func (s store) read(i int) []byte {
	b, e := s.disk.Read(i)
	must(e)
	return b
}

func (s store) sync() { must(s.disk.Sync()) }

func must(e api.Errno) {
	if e != api.OK {
		panic(e)
	}
}

func (s store) areaSectors() int { return (s.disk.Sectors() - slotCount) / areaCount }

func (s store) areaBytes() int { return s.areaSectors() * s.disk.Size() }

func (s store) areaStart(area int) int { return slotCount + area*s.areaSectors() }

// bytes: the first count ones of an area.
func (s store) bytes(area, count int) []byte {
	var out []byte
	for i := s.areaStart(area); len(out) < count; i++ {
		out = append(out, s.read(i)...)
	}
	return out[:count]
}

// put writes b into an area, behind its first at bytes. The sector that holds
// the last of these is written with them: kept or not, it has them.
func (s store) put(area, at int, b []byte) {
	size := s.disk.Size()
	place := s.areaStart(area) + at/size
	if at%size > 0 {
		b = append(s.read(place)[:at%size], b...)
	}
	for chunk := range slices.Chunk(b, size) {
		sector := make([]byte, size)
		copy(sector, chunk)
		must(s.disk.Write(place, sector))
		place++
	}
}

func (s store) putHead(slot int, h head) {
	must(s.disk.Write(slot, h.bytes(s.disk.Size())))
}

// newest: the head that counts. Power that fails leaves in each slot a whole
// head, or noughts where none was ever written: anything else is no journal.
func (s store) newest() head {
	first, second := s.read(0), s.read(1)
	if blank(first) {
		return s.begin()
	}
	h := openHead(first, s.areaBytes())
	if h.commits == 0 && blank(second) {
		return h
	}
	other := openHead(second, s.areaBytes())
	// The count may come round, if another hand began it high: the newer one
	// is ahead by less than half of all counts.
	if int64(other.commits-h.commits) > 0 {
		return other
	}
	return h
}

// begin makes a disk of noughts a new journal. Its head must be there ahead of
// the first record, or a crash could leave sectors that nothing tells of.
func (s store) begin() head {
	for i := range s.disk.Sectors() {
		if !blank(s.read(i)) {
			panic(api.ErrLogForm)
		}
	}
	var h head
	s.putHead(h.slot(), h)
	return h
}

func blank(b []byte) bool { return bytes.Count(b, []byte{0}) == len(b) }
