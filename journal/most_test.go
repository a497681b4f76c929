package journal

import (
	"testing"

	"signet/api"
	"signet/disk"
)

// nearMost: a journal that has maxRecords less so many as left says, all of them empty but the first.
func nearMost(t *testing.T, left int) (*disk.Disk, *Journal) {
	t.Helper()
	d := disk.New(100, 64)
	j, _, _ := Open(d)
	l := make([][]byte, maxRecords-left)
	l[0] = []byte("first")
	if e := j.Commit(l); e != api.OK {
		t.Fatalf("P12.1: a Commit of %d empty records: error %d", len(l), e)
	}
	return d, j
}

// holdsMost: Open finds so many records, the first and the last as they were put, and the same Room.
func holdsMost(t *testing.T, d *disk.Disk, j *Journal, records int) {
	t.Helper()
	k, l, e := Open(d.Copy())
	if e != api.OK || len(l) != records || string(l[0]) != "first" {
		t.Fatalf("P12.4: error %d, %d records, not %d", e, len(l), records)
	}
	if k.Room() != j.Room() || k.Commits() != j.Commits() {
		t.Fatalf("P12.4: Room %d, opened again %d", j.Room(), k.Room())
	}
}

// TestMostRecords (P12.1): maxRecords have room, one more hasn't, whatever it is; a Reset makes room again.
func TestMostRecords(t *testing.T) {
	d, j := nearMost(t, 2)
	if e := j.Commit([][]byte{nil, {'x'}, nil}); e != api.ErrLogFull {
		t.Fatalf("P12.1: one past the most: error %d", e)
	}
	holdsMost(t, d, j, maxRecords-2)
	if e := j.Commit([][]byte{nil, {'x'}}); e != api.OK {
		t.Fatalf("P12.1: the most: error %d", e)
	}
	holdsMost(t, d, j, maxRecords)
	if j.Room() != 0 {
		t.Errorf("P12.1: Room %d of a journal that has the most", j.Room())
	}
	for _, l := range [][][]byte{{nil}, {{'x'}}, {nil, nil}} {
		if e := j.Commit(l); e != api.ErrLogFull {
			t.Errorf("P12.1: %d behind the most: error %d", len(l), e)
		}
	}
	if e := j.Commit(nil); e != api.OK {
		t.Errorf("P12.1: none behind the most: error %d", e)
	}
	holdsMost(t, d, j, maxRecords)
	if e := j.Reset(make([][]byte, maxRecords+1)); e != api.ErrLogFull {
		t.Errorf("P12.1: Reset to one past the most: error %d", e)
	}
	if e := j.Reset([][]byte{[]byte("first")}); e != api.OK {
		t.Fatalf("P12.1: Reset: error %d", e)
	}
	holdsMost(t, d, j, 1)
	if j.Room() == 0 {
		t.Error("P12.1: no Room behind a Reset")
	}
}

// TestRoomNearMost (P12.1, P12.2): where few records are left, what Room tells has room, and no more is taken off than may be.
func TestRoomNearMost(t *testing.T) {
	d, _ := nearMost(t, 12)
	for _, first := range []int{0, 1, 5, 10, 11, 12} {
		for count := range 14 {
			for _, size := range []int{0, 1, 40} {
				j, _, _ := Open(d.Copy())
				j.Commit(make([][]byte, first))
				room := j.Room()
				l := make([][]byte, count)
				for i := range l {
					l[i] = make([]byte, size)
				}
				cost := count*(16+size) + 2*64
				switch e := j.Commit(l); {
				case e == api.OK && j.Room() < room-cost:
					t.Fatalf("P12.2: %d of %d bytes took Room from %d to %d", count, size, room, j.Room())
				case e != api.OK && (e != api.ErrLogFull || cost <= room || count == 1 && size <= room && room > 0):
					t.Fatalf("P12.2: %d of %d bytes, Room %d: error %d", count, size, room, e)
				}
			}
		}
		j, _, _ := Open(d.Copy())
		j.Commit(make([][]byte, first))
		if room := j.Room(); room > 0 && j.Commit([][]byte{make([]byte, room)}) != api.OK || (room == 0) != (first == 12) {
			t.Fatalf("P12.1: %d: a record of Room's %d bytes has no room", first, room)
		}
	}
}

// TestMostOfGreatest (P12.2): the greatest disk is full of bytes ahead of having the most records.
func TestMostOfGreatest(t *testing.T) {
	d := disk.New(api.MaxSectors, api.MaxSector)
	j, _, _ := Open(d)
	if full := j.Room() / (frameExtra + 1); full >= maxRecords {
		t.Errorf("P12.2: %d records of one byte", full)
	}
	l := make([][]byte, (j.Room()-2*api.MaxSector)/17)
	for i := range l {
		l[i] = []byte{byte(i)}
	}
	if e := j.Commit(l); e != api.OK {
		t.Fatalf("P12.2: %d records of one byte: error %d", len(l), e)
	}
	if _, got, e := Open(d); e != api.OK || len(got) != len(l) {
		t.Errorf("P12.4: error %d, %d records", e, len(got))
	}
}
