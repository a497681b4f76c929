package journal

import (
	"bytes"
	"math"
	"testing"

	"signet/api"
	"signet/disk"
)

// withHead: a disk of 10 sectors of 64 whose first slot has b.
func withHead(b []byte) *disk.Disk {
	d := disk.New(10, 64)
	d.Write(0, b)
	d.Sync()
	return d
}

// sealed: b, of 64 bytes, with a right Crc at its end.
func sealed(b []byte) []byte {
	return appendNumber(bytes.Clone(b[:60]), wordSize, uint64(Crc(b[:60])))
}

// TestHeadNumbers (P12.1): heads with a right Crc, but numbers that no journal has, are refused.
func TestHeadNumbers(t *testing.T) {
	plain := head{}.bytes(64)
	if _, l, e := Open(withHead(plain)); e != api.OK || len(l) != 0 {
		t.Fatalf("P12.1: a plain head: error %d", e)
	}
	rows := []struct {
		at, count int
		n         uint64
	}{
		{0, 1, 'S'}, {7, 1, '3'}, // the mark
		{16, 4, 2}, {16, 4, 1 << 31}, {16, 4, math.MaxUint32}, // the area
		{20, 4, 4*64 + 1}, {20, 4, 1 << 31}, {20, 4, math.MaxUint32}, // the bytes that are used
		{20, 4, 1}, {20, 4, 8}, {20, 4, 12}, {20, 4, 4 * 64}, // so many, of noughts: no frames
		{28, 1, 1}, {59, 1, 1}, // what must be noughts
		{8, 8, 1}, {8, 8, math.MaxUint64}, // a Commit of which the other slot doesn't know
	}
	for _, row := range rows {
		b := bytes.Clone(plain)
		copy(b[row.at:], appendNumber(nil, row.count, row.n))
		if j, l, e := Open(withHead(sealed(b))); e != api.ErrLogForm || j != nil || len(l) != 0 {
			t.Errorf("P12.1: byte %d: %d: error %d, %d records", row.at, row.n, e, len(l))
		}
	}
	b := bytes.Clone(plain)
	b[63]++
	if _, _, e := Open(withHead(b)); e != api.ErrLogForm {
		t.Errorf("P12.1: a wrong Crc: error %d", e)
	}
}

// TestFrameLengths (P12.1): frames whose lengths lead out of what is used are refused, and those that leave bytes over.
func TestFrameLengths(t *testing.T) {
	for _, n := range []uint64{0, 1, 51, 52, 53, 64, 1 << 20, 1 << 31, math.MaxUint32 - 12, math.MaxUint32} {
		for _, used := range []int{8, 11, 12, 13, 63, 64} {
			d := withHead(head{used: used}.bytes(64))
			b := append(appendNumber(nil, frameAhead, n), make([]byte, 56)...)
			end := used - wordSize
			copy(b[end:], appendNumber(nil, wordSize, uint64(Crc(b[:end]))))
			d.Write(2, b)
			right := used >= frameExtra && n == uint64(used-frameExtra)
			_, l, e := Open(d)
			if right && (e != api.OK || len(l) != 1 || len(l[0]) != int(n)) {
				t.Errorf("P12.1: a frame of %d bytes: error %d, %d records", n, e, len(l))
			}
			if !right && (e != api.ErrLogForm || len(l) != 0) {
				t.Errorf("P12.1: length %d in %d bytes: error %d, %d records", n, used, e, len(l))
			}
		}
	}
}

// TestFaults (DOC, 1): an error that panics is told, and anything else doesn't come out either.
func TestFaults(t *testing.T) {
	if e := attempt(func() {}); e != api.OK {
		t.Errorf("DOC: nothing wrong: error %d", e)
	}
	if e := attempt(func() { must(api.ErrDiskDead) }); e != api.ErrDiskDead {
		t.Errorf("DOC: the disk's error: error %d", e)
	}
	if e := attempt(func() { panic("other") }); e != api.ErrLogForm {
		t.Errorf("DOC: another panic: error %d", e)
	}
}
