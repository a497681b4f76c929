package journal

import (
	"bytes"
	"math"
	"math/rand"
	"slices"
	"testing"

	"signet/api"
	"signet/disk"
)

// withHead: a disk of 10 sectors of 64 whose first slot has b.
func withHead(b []byte) *disk.Disk {
	d := disk.New(10, 64)
	d.Write(0, b)
	d.Sync()
	return d
}

// sealed: b, of 64 bytes, with a right Crc at its end.
func sealed(b []byte) []byte {
	return appendNumber(bytes.Clone(b[:60]), wordSize, uint64(Crc(b[:60])))
}

// TestHeadNumbers (P12.1): heads with a right Crc, but numbers that no journal has, are refused.
func TestHeadNumbers(t *testing.T) {
	plain := head{}.bytes(64)
	if _, l, e := Open(withHead(plain)); e != api.OK || len(l) != 0 {
		t.Fatalf("P12.1: a plain head: error %d", e)
	}
	rows := []struct {
		at, count int
		n         uint64
	}{
		{0, 1, 'J'}, {7, 1, '3'}, {0, 8, 0x7369676e65743132}, // the mark; that of the first form
		{16, 4, 2}, {16, 4, 1 << 31}, {16, 4, math.MaxUint32}, // the area
		{20, 4, 4*64 + 1}, {20, 4, 1 << 31}, {20, 4, math.MaxUint32}, // the bytes that are used
		{20, 4, 1}, {20, 4, 8}, {20, 4, 12}, {20, 4, 4 * 64}, // so many, of noughts: no frames
		{24, 4, maxRecords + 1}, {24, 4, 1 << 24}, {24, 4, math.MaxInt32}, {24, 4, 1 << 31}, {24, 4, math.MaxUint32}, // the records
		{28, 1, 1}, {59, 1, 1}, // what must be noughts
		{8, 8, 1}, {8, 8, math.MaxUint64}, // a Commit of which the other slot doesn't know
	}
	for _, row := range rows {
		b := bytes.Clone(plain)
		copy(b[row.at:], appendNumber(nil, row.count, row.n))
		if j, l, e := Open(withHead(sealed(b))); e != api.ErrLogForm || j != nil || len(l) != 0 {
			t.Errorf("P12.1: byte %d: %d: error %d, %d records", row.at, row.n, e, len(l))
		}
	}
	b := bytes.Clone(plain)
	b[63]++
	if _, _, e := Open(withHead(b)); e != api.ErrLogForm {
		t.Errorf("P12.1: a wrong Crc: error %d", e)
	}
}

// TestFrameLengths (P12.1): frames whose lengths lead out of what is used are refused, and those that leave bytes over.
func TestFrameLengths(t *testing.T) {
	for _, n := range []uint64{0, 1, 51, 52, 53, 64, 1 << 20, 1 << 31, math.MaxUint32 - 12, math.MaxUint32} {
		for _, used := range []int{8, 11, 12, 13, 63, 64} {
			d := withHead(head{used: used, records: 1}.bytes(64))
			b := append(appendNumber(nil, frameAhead, n), make([]byte, 56)...)
			end := used - wordSize
			copy(b[end:], appendNumber(nil, wordSize, uint64(Crc(b[:end]))))
			d.Write(2, b)
			right := n > 0 && used >= frameExtra && n == uint64(used-frameExtra)
			_, l, e := Open(d)
			if right && (e != api.OK || len(l) != 1 || len(l[0]) != int(n)) {
				t.Errorf("P12.1: a frame of %d bytes: error %d, %d records", n, e, len(l))
			}
			if !right && (e != api.ErrLogForm || len(l) != 0) {
				t.Errorf("P12.1: length %d in %d bytes: error %d, %d records", n, used, e, len(l))
			}
		}
	}
}

// TestFrameNumbers (P12.1): frames have the numbers of records that there are, and rise; others are refused.
func TestFrameNumbers(t *testing.T) {
	rows := []struct {
		records int
		places  []int
		right   bool
	}{
		{0, nil, true}, {1, nil, true}, {3, []int{0, 1, 2}, true}, {3, []int{0, 2}, true}, {3, []int{1}, true},
		{maxRecords, []int{0, maxRecords - 1}, true},
		{0, []int{0}, false}, {1, []int{1}, false}, {1, []int{0, 1}, false}, {3, []int{0, 3}, false},
		{3, []int{1, 1}, false}, {3, []int{2, 1}, false}, {3, []int{0, 1, 0}, false},
		{1, []int{maxRecords}, false}, {maxRecords, []int{maxRecords}, false},
		{1, []int{math.MaxInt32}, false}, {1, []int{1 << 31}, false}, {1, []int{math.MaxUint32}, false},
	}
	for _, row := range rows {
		var b []byte
		for _, place := range row.places {
			b = append(b, frames(place, [][]byte{{'a'}})...)
		}
		d := withHead(head{used: len(b), records: row.records}.bytes(64))
		d.Write(2, append(b, make([]byte, 64-len(b))...))
		j, l, e := Open(d)
		if !row.right {
			if e != api.ErrLogForm || j != nil || len(l) != 0 {
				t.Errorf("P12.1: %v of %d: error %d, %d records", row.places, row.records, e, len(l))
			}
			continue
		}
		if e != api.OK || len(l) != row.records {
			t.Fatalf("P12.1: %v of %d: error %d, %d records", row.places, row.records, e, len(l))
		}
		for i, record := range l {
			if (string(record) == "a") != slices.Contains(row.places, i) {
				t.Errorf("P12.1: %v of %d: record %d is %q", row.places, row.records, i, record)
			}
		}
	}
}

// anyNumber: small, great, or near a power of two.
func anyNumber(r *rand.Rand) uint64 {
	return []uint64{uint64(r.Intn(9)), r.Uint64(), uint64(1)<<r.Intn(64) + uint64(r.Intn(3)) - 1, math.MaxUint64}[r.Intn(4)]
}

// TestOtherHand (P12.1; DOC, 1): heads and frames of any numbers, each with a right Crc: Open ends, with ErrLogForm or with
// a journal that goes on as one.
func TestOtherHand(t *testing.T) {
	r := rand.New(rand.NewSource(30))
	opened := 0
	for range 4000 {
		d := disk.New(12, 64)
		j, _, _ := Open(d)
		for range r.Intn(4) {
			j.Commit([][]byte{nil, []byte("one"), {}, []byte("two")}[r.Intn(2) : r.Intn(3)+2])
		}
		slot := j.head.slot()
		b := j.head.bytes(64)
		field := []struct{ at, count int }{{8, 8}, {16, 4}, {20, 4}, {24, 4}}[r.Intn(4)]
		copy(b[field.at:], appendNumber(nil, field.count, anyNumber(r)))
		if r.Intn(4) > 0 {
			d.Write(slot, sealed(b))
		}
		if r.Intn(2) == 0 {
			f := frames(0, [][]byte{[]byte("one")})
			copy(f[r.Intn(2)*wordSize:], appendNumber(nil, wordSize, anyNumber(r)))
			f = appendNumber(f[:len(f)-wordSize], wordSize, uint64(Crc(f[:len(f)-wordSize])))
			d.Write(2, append(f, make([]byte, 64-len(f))...))
		}
		j, l, e := Open(d)
		if e != api.OK {
			if e != api.ErrLogForm || j != nil || len(l) != 0 {
				t.Fatalf("P12.1: error %d, %d records", e, len(l))
			}
			continue
		}
		opened++
		if j.Commit([][]byte{[]byte("more")}) != api.OK {
			continue
		}
		k, got, e := Open(d)
		if e != api.OK || k.Commits() != j.Commits() || !slices.EqualFunc(got, append(l, []byte("more")), bytes.Equal) {
			t.Fatalf("P12.4: behind a Commit: error %d, %d records behind %d", e, len(got), len(l))
		}
	}
	if opened == 0 {
		t.Error("P12.1: none was a journal")
	}
}

// TestCommitsComeRound (P12.4): a count that another hand began at its end loses nothing as it comes round.
func TestCommitsComeRound(t *testing.T) {
	for _, first := range []uint64{math.MaxUint64 - 1, math.MaxUint64, math.MaxInt64, 1 << 63} {
		d := disk.New(10, 64)
		d.Write(0, head{commits: first}.bytes(64))
		d.Write(1, head{commits: first}.bytes(64))
		for i := range uint64(5) {
			j, l, e := Open(d)
			if e != api.OK || uint64(len(l)) != i || j.Commits() != first+i {
				t.Fatalf("P12.4: from %d: error %d, %d records, not %d", first, e, len(l), i)
			}
			if e := j.Commit([][]byte{{'a'}}); e != api.OK {
				t.Fatalf("P12.4: from %d: error %d", first, e)
			}
		}
	}
}

// TestFaults (DOC, 1): an error that panics is told, and anything else doesn't come out either.
func TestFaults(t *testing.T) {
	if e := attempt(func() {}); e != api.OK {
		t.Errorf("DOC: nothing wrong: error %d", e)
	}
	if e := attempt(func() { must(api.ErrDiskDead) }); e != api.ErrDiskDead {
		t.Errorf("DOC: the disk's error: error %d", e)
	}
	if e := attempt(func() { panic("other") }); e != api.ErrLogForm {
		t.Errorf("DOC: another panic: error %d", e)
	}
}
