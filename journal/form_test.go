package journal_test

import (
	"bytes"
	"math/rand"
	"slices"
	"testing"

	"signet/api"
	"signet/disk"
	"signet/journal"
)

// TestFewSectors (P12.1): below 8 there is no journal, with power or without; with 8 there is.
func TestFewSectors(t *testing.T) {
	for n := range 8 {
		for _, size := range []int{64, 512, 4096} {
			d := disk.New(n, size)
			refused(t, "few sectors", d, api.ErrLogForm)
			if b, e := d.Read(0); e != api.OK || !bytes.Equal(b, make([]byte, size)) {
				t.Error("P12.1: a refused Open wrote")
			}
			d.Cut(0)
			d.Sync()
			refused(t, "few sectors without power", d, api.ErrLogForm)
		}
	}
	refused(t, "no disk", nil, api.ErrLogForm)
	for _, size := range []int{64, 512, 4096} {
		open(t, disk.New(8, size))
	}
}

// TestNotNoughts (P12.1): one bit anywhere on a disk that is no journal refuses it, and leaves it as it is, sure or not.
func TestNotNoughts(t *testing.T) {
	for i := range 11 {
		for at := range 64 {
			d := disk.New(11, 64)
			b := make([]byte, 64)
			b[at] = 1 << (at % 8)
			d.Write(i, b)
			was := sectors(t, d)
			refused(t, "a bit", d, api.ErrLogForm)
			if !slices.EqualFunc(was, sectors(t, d), bytes.Equal) {
				t.Fatal("P12.1: a refused Open wrote")
			}
			d.Crash(0)
			for _, x := range sectors(t, d) {
				if !bytes.Equal(x, make([]byte, 64)) {
					t.Fatal("P12.1: a refused Open made sure what wasn't")
				}
			}
			open(t, d)
		}
	}
}

// TestAnyDisk (P12.1, P30.9): sectors of any bytes, alone or all of them, are no journal.
func TestAnyDisk(t *testing.T) {
	r := rand.New(rand.NewSource(11))
	for range 2000 {
		n, size := 8+r.Intn(8), 64+r.Intn(20)
		d := disk.New(n, size)
		for i := range n {
			switch r.Intn(4) {
			case 0:
				d.Write(i, anyBytes(r, size))
			case 1:
				d.Write(i, bytes.Repeat([]byte{byte(1 + r.Intn(255))}, size))
			case 2:
				d.Write(i, bytes.Repeat([]byte{0xff}, size))
			}
		}
		d.Write(r.Intn(n), anyBytes(r, size))
		d.Sync()
		refused(t, "any sectors", d, api.ErrLogForm)
	}
}

// made: a journal with Resets and Commits behind it, its records, and how many of these calls there were.
func made(t *testing.T, r *rand.Rand, d *disk.Disk) (*journal.Journal, [][]byte, uint64) {
	t.Helper()
	j, have := open(t, d)
	commits := uint64(0)
	for range r.Intn(8) {
		l := anyRecords(r, 2, 40)
		if r.Intn(3) == 0 {
			if j.Reset(l) == api.OK {
				have, commits = l, commits+1
			}
		} else if j.Commit(l) == api.OK {
			have, commits = append(have, l...), commits+1
		}
	}
	return j, have, commits
}

// TestDamage (P12.1, P12.4): where a sector of a journal was changed by another hand, Open tells its records or
// ErrLogForm, never other records. (Noughts count from two Commits on: till then they may be what was there.)
func TestDamage(t *testing.T) {
	r := rand.New(rand.NewSource(12))
	damages := 0
	for range 300 {
		d := disk.New(8+r.Intn(10), 64)
		_, have, commits := made(t, r, d)
		for i := range d.Sectors() {
			c := d.Copy()
			b, _ := c.Read(i)
			switch x := r.Intn(3); {
			case x == 0:
				b = anyBytes(r, 64)
			case x == 1 && commits >= 2:
				b = make([]byte, 64)
			default:
				b[r.Intn(64)] ^= 1 << r.Intn(8)
			}
			c.Write(i, b)
			c.Sync()
			j, got, e := journal.Open(c)
			switch {
			case e == api.OK && j != nil && sameRecords(got, have):
			case e == api.ErrLogForm && j == nil && len(got) == 0:
				damages++
			default:
				t.Fatalf("P12.4: sector %d of %d: error %d, %d records, not %d", i, d.Sectors(), e, len(got), len(have))
			}
		}
	}
	if damages == 0 {
		t.Error("P12.1: no damage was found")
	}
}

// TestOpenMakesSure (P12.4): what Open tells stays, though whoever wrote the sectors didn't make them sure.
func TestOpenMakesSure(t *testing.T) {
	r := rand.New(rand.NewSource(13))
	for range 50 {
		d := disk.New(20, 64)
		j, have, commits := made(t, r, d)
		other := disk.New(20, 64)
		for i, b := range sectors(t, d) {
			other.Write(i, b)
		}
		_, got := open(t, other)
		if !sameRecords(got, have) {
			t.Fatalf("P12.1: %d records, not %d", len(got), len(have))
		}
		other.Crash(0)
		holds(t, "P12.4", other, j, have, commits)
	}
}
