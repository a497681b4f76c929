package disk_test

import (
	"bytes"
	"math"
	"math/rand"
	"slices"
	"testing"

	"signet/api"
	"signet/disk"
)

// full: a sector of size bytes, all x.
func full(x byte, size int) []byte { return bytes.Repeat([]byte{x}, size) }

// sector: a sector of 64 bytes, all x.
func sector(x byte) []byte { return full(x, 64) }

func anyBytes(r *rand.Rand, n int) []byte {
	b := make([]byte, n)
	r.Read(b)
	return b
}

func isErr(t *testing.T, promise, what string, got, want api.Errno) {
	t.Helper()
	if got != want {
		t.Errorf("%s: %s: error %d, not %d", promise, what, got, want)
	}
}

// holds: d has the bytes want at i.
func holds(t *testing.T, promise string, d *disk.Disk, i int, want []byte) {
	t.Helper()
	got, e := d.Read(i)
	if e != api.OK || !bytes.Equal(got, want) {
		t.Fatalf("%s: sector %d: error %d, %d bytes %.8x .., not %.8x ..", promise, i, e, len(got), got, want)
	}
}

// holdsAll: d has at each place a sector of the byte of want.
func holdsAll(t *testing.T, promise string, d *disk.Disk, want []byte) {
	t.Helper()
	for i, x := range want {
		holds(t, promise, d, i, full(x, d.Size()))
	}
}

// isDead: every call finds no power, right arguments or wrong ones.
func isDead(t *testing.T, d *disk.Disk) {
	t.Helper()
	if !d.Dead() {
		t.Error("P11.2: isn't Dead")
	}
	b := make([]byte, d.Size())
	for _, i := range []int{0, d.Sectors() - 1, d.Sectors(), -1, math.MinInt, math.MaxInt} {
		got, e := d.Read(i)
		isErr(t, "P11.1", "Read without power", e, api.ErrDiskDead)
		if len(got) != 0 {
			t.Errorf("P11.1: Read without power: %d bytes", len(got))
		}
		isErr(t, "P11.1", "Write without power", d.Write(i, b), api.ErrDiskDead)
		isErr(t, "P11.1", "Write of no bytes without power", d.Write(i, nil), api.ErrDiskDead)
	}
	isErr(t, "P11.1", "Sync without power", d.Sync(), api.ErrDiskDead)
	if !d.Dead() {
		t.Error("P11.2: isn't Dead any more")
	}
}

// TestNew (P11.1): numbers at, below and above the limits; noughts at each place.
func TestNew(t *testing.T) {
	counts := [][2]int{{math.MinInt, 1}, {-1, 1}, {0, 1}, {1, 1}, {2, 2}, {7, 7}, {4095, 4095}, {4096, 4096}, {4097, 4096}, {1 << 32, 4096}, {1<<32 + 5, 4096}, {math.MaxInt, 4096}}
	sizes := [][2]int{{math.MinInt, 64}, {-1, 64}, {0, 64}, {1, 64}, {63, 64}, {64, 64}, {65, 65}, {511, 511}, {512, 512}, {4095, 4095}, {4096, 4096}, {4097, 4096}, {1<<32 + 70, 4096}, {math.MaxInt, 4096}}
	for _, n := range counts {
		for _, size := range sizes {
			d := disk.New(n[0], size[0])
			if d.Sectors() != n[1] || d.Size() != size[1] {
				t.Errorf("P11.1: New(%d, %d): %d of %d", n[0], size[0], d.Sectors(), d.Size())
			}
			if d.Dead() {
				t.Errorf("P11.2: New(%d, %d) is Dead", n[0], size[0])
			}
			for _, i := range []int{0, n[1] / 2, n[1] - 1} {
				holds(t, "P11.1", d, i, make([]byte, size[1]))
			}
		}
	}
	d := disk.New(300, 64)
	holdsAll(t, "P11.1", d, make([]byte, 300))
}

// TestPlaces (P11.1): which places there are, which bytes a sector takes, and which error comes first.
func TestPlaces(t *testing.T) {
	for _, n := range []int{1, 2, 9, 4096} {
		d := disk.New(n, 100)
		b := full(1, 100)
		for _, i := range []int{-1, n, n + 1, -n, math.MinInt, math.MaxInt, 1 << 32, 1<<32 + n, math.MinInt32, math.MaxInt32} {
			got, e := d.Read(i)
			isErr(t, "P11.1", "Read elsewhere", e, api.ErrDiskPlace)
			if len(got) != 0 {
				t.Errorf("P11.1: Read elsewhere: %d bytes", len(got))
			}
			isErr(t, "P11.1", "Write elsewhere", d.Write(i, b), api.ErrDiskPlace)
			isErr(t, "P11.1", "Write of no bytes elsewhere", d.Write(i, nil), api.ErrDiskPlace)
		}
		for _, i := range []int{0, n / 2, n - 1} {
			d := disk.New(n, 100)
			for _, size := range []int{0, 1, 64, 99, 101, 200, 4096} {
				isErr(t, "P11.1", "Write of other bytes", d.Write(i, full(2, size)), api.ErrDiskSize)
			}
			isErr(t, "P11.1", "Write of a nil list", d.Write(i, nil), api.ErrDiskSize)
			holds(t, "P11.1", d, i, full(0, 100))
			isErr(t, "P11.1", "Write", d.Write(i, b), api.OK)
			holds(t, "P11.1", d, i, b)
		}
	}
}

// TestRefusedUnsure (P11.1, P11.2): what is refused is neither written nor numbered by a Crash.
func TestRefusedUnsure(t *testing.T) {
	d := disk.New(3, 64)
	d.Write(0, sector(1)[:63])
	d.Write(-1, sector(1))
	d.Write(3, sector(1))
	d.Write(1, sector(2))
	d.Write(2, sector(3))
	d.Crash(1)
	holdsAll(t, "P11.2", d, []byte{0, 2, 0})
}

// TestLast (P11.1): the last of many Writes is read, ahead of a Sync and behind it.
func TestLast(t *testing.T) {
	d := disk.New(4, 64)
	for x := range byte(20) {
		isErr(t, "P11.1", "Write", d.Write(1, sector(x)), api.OK)
		isErr(t, "P11.1", "Write", d.Write(3, sector(x+100)), api.OK)
		holdsAll(t, "P11.1", d, []byte{0, x, 0, x + 100})
		if x%3 == 0 {
			isErr(t, "P11.1", "Sync", d.Sync(), api.OK)
			isErr(t, "P11.1", "Sync", d.Sync(), api.OK)
			holdsAll(t, "P11.1", d, []byte{0, x, 0, x + 100})
		}
	}
}

// TestWholeSector (P11.1): each byte of the greatest disk's ends comes back.
func TestWholeSector(t *testing.T) {
	r := rand.New(rand.NewSource(1))
	d := disk.New(4096, 4096)
	a, b := anyBytes(r, 4096), anyBytes(r, 4096)
	d.Write(0, a)
	d.Write(4095, b)
	for range 2 {
		holds(t, "P11.1", d, 0, a)
		holds(t, "P11.1", d, 1, make([]byte, 4096))
		holds(t, "P11.1", d, 4094, make([]byte, 4096))
		holds(t, "P11.1", d, 4095, b)
		d.Sync()
		d.Crash(0)
	}
}

// TestOwnMemory (P11.1): neither what was handed in nor what was answered reaches the disk; the room behind what is handed in stays.
func TestOwnMemory(t *testing.T) {
	d := disk.New(2, 64)
	room := append(sector(5), sector(6)...)
	d.Write(0, room[:64])
	if !bytes.Equal(room, append(sector(5), sector(6)...)) {
		t.Error("P11.1: Write changed what it was handed")
	}
	steps := []func(){func() {}, func() { d.Sync() }, func() { d.Crash(0) }}
	for _, step := range steps {
		step()
		for i := range room {
			room[i]++
		}
		holds(t, "P11.1", d, 0, sector(5))
		got, _ := d.Read(0)
		again, _ := d.Read(0)
		for i := range got[:cap(got)] {
			got[:cap(got)][i] = 99
		}
		if !bytes.Equal(again, sector(5)) {
			t.Error("P11.1: two Reads share memory")
		}
		holds(t, "P11.1", d, 0, sector(5))
		noughts, _ := d.Read(1)
		noughts[3] = 1
		holds(t, "P11.1", d, 1, sector(0))
	}
}

// TestExamples (P11.2): the chapter's.
func TestExamples(t *testing.T) {
	d := disk.New(8, 64)
	d.Write(3, sector(7))
	d.Crash(0)
	holds(t, "P11.2", d, 3, sector(0))
	d.Write(3, sector(7))
	d.Crash(1)
	holds(t, "P11.2", d, 3, sector(7))
	d.Crash(0)
	holds(t, "P11.2", d, 3, sector(7))
}

// TestSure (P11.1, P11.3): what was synced stays, whatever a Crash keeps.
func TestSure(t *testing.T) {
	for _, keep := range []uint64{0, 1, 2, 0x5555555555555555, math.MaxUint64} {
		d := disk.New(3, 64)
		d.Write(2, sector(2))
		d.Write(0, sector(1))
		d.Sync()
		d.Crash(keep)
		holdsAll(t, "P11.3", d, []byte{1, 0, 2})
		d.Crash(keep)
		holdsAll(t, "P11.3", d, []byte{1, 0, 2})
	}
}

// TestBackToSure (P11.2): a sector that isn't kept is as it was sure, not as it was between.
func TestBackToSure(t *testing.T) {
	d := disk.New(2, 64)
	d.Write(0, sector(1))
	d.Sync()
	d.Write(0, sector(2))
	d.Write(0, sector(3))
	d.Crash(0)
	holds(t, "P11.2", d, 0, sector(1))
	d.Write(0, sector(4))
	d.Write(0, sector(5))
	d.Crash(1)
	holds(t, "P11.2", d, 0, sector(5))
	d.Write(0, sector(6))
	d.Crash(math.MaxUint64 - 1)
	holds(t, "P11.2", d, 0, sector(5))
}

// TestNumbers (P11.2): by their places, not by when they were written; one that was
// written as it was counts too, and one that was written twice counts once.
func TestNumbers(t *testing.T) {
	for keep := range uint64(16) {
		d := disk.New(9, 64)
		for _, i := range []int{8, 2, 5, 2, 0, 8} {
			d.Write(i, sector(byte(i*10+1)))
		}
		d.Crash(keep)
		want := make([]byte, 9)
		for k, i := range []int{0, 2, 5, 8} {
			if keep&(1<<k) != 0 {
				want[i] = byte(i*10 + 1)
			}
		}
		holdsAll(t, "P11.2", d, want)
	}
	d := disk.New(3, 64)
	d.Write(0, sector(0))
	d.Write(1, sector(1))
	d.Crash(1)
	holdsAll(t, "P11.2", d, []byte{0, 0, 0})
	d.Write(0, sector(0))
	d.Write(1, sector(1))
	d.Crash(2)
	holdsAll(t, "P11.2", d, []byte{0, 1, 0})
}

// TestAllSureBehindCrash (P11.2): what a Crash kept isn't numbered by the next.
func TestAllSureBehindCrash(t *testing.T) {
	d := disk.New(3, 64)
	d.Write(0, sector(1))
	d.Write(1, sector(2))
	d.Crash(1)
	d.Write(2, sector(3))
	d.Crash(1)
	holdsAll(t, "P11.2", d, []byte{1, 0, 3})
	d.Write(1, sector(4))
	d.Sync()
	d.Write(2, sector(5))
	d.Crash(1)
	holdsAll(t, "P11.2", d, []byte{1, 4, 5})
}

// TestManyBits (P11.2): from number 64 on the bits come round.
func TestManyBits(t *testing.T) {
	for _, keep := range []uint64{0, 1, 1 << 63, 1 << 31, 1 << 32, 0x8000000000000001, 0xfedcba9876543210, math.MaxUint64} {
		const n = 300
		d := disk.New(n, 64)
		want := make([]byte, n)
		k := 0
		for i := range n {
			if i%7 == 3 {
				continue
			}
			if keep&(1<<(k-k/64*64)) != 0 {
				want[i] = byte(i%250 + 1)
			}
			k++
		}
		for i := n - 1; i >= 0; i-- {
			if i%7 != 3 {
				d.Write(i, sector(byte(i%250+1)))
			}
		}
		d.Crash(keep)
		holdsAll(t, "P11.2", d, want)
	}
	d := disk.New(4096, 64)
	for i := range 4096 {
		d.Write(i, sector(9))
	}
	d.Crash(1 << 63)
	for i := range 4096 {
		want := sector(0)
		if i%64 == 63 {
			want = sector(9)
		}
		holds(t, "P11.2", d, i, want)
	}
}

// TestCut (P11.2): exactly n more Writes and Syncs are done, whichever they are.
func TestCut(t *testing.T) {
	for n := -2; n < 9; n++ {
		for mask := range 1 << max(n, 0) {
			d := disk.New(2, 64)
			d.Cut(n)
			for step := range max(n, 0) {
				if d.Dead() {
					t.Fatal("P11.2: Dead too soon")
				}
				if mask>>step&1 == 1 {
					isErr(t, "P11.2", "Sync ahead of the cut", d.Sync(), api.OK)
				} else {
					isErr(t, "P11.2", "Write ahead of the cut", d.Write(0, sector(byte(step))), api.OK)
				}
			}
			if d.Dead() {
				t.Fatal("P11.2: Dead ahead of the next one")
			}
			if _, e := d.Read(0); e != api.OK {
				t.Fatal("P11.2: Read ahead of the next one")
			}
			if mask&1 == 1 {
				isErr(t, "P11.2", "Sync at the cut", d.Sync(), api.ErrDiskDead)
			} else {
				isErr(t, "P11.2", "Write at the cut", d.Write(0, sector(99)), api.ErrDiskDead)
			}
			isDead(t, d)
		}
	}
}

// TestCutEdges (P11.2): the least and the greatest numbers.
func TestCutEdges(t *testing.T) {
	for _, n := range []int{0, -1, math.MinInt, math.MinInt32} {
		d := disk.New(1, 64)
		d.Cut(n)
		isErr(t, "P11.2", "Write at the cut", d.Write(0, sector(1)), api.ErrDiskDead)
		isDead(t, d)
	}
	for _, n := range []int{math.MaxInt, math.MaxInt32, 1 << 32} {
		d := disk.New(1, 64)
		d.Cut(n)
		for range 300 {
			isErr(t, "P11.2", "Write ahead of the cut", d.Write(0, sector(1)), api.OK)
			isErr(t, "P11.2", "Sync ahead of the cut", d.Sync(), api.OK)
		}
	}
}

// TestNothingDone (P11.2): the Write that finds no power isn't written, nor numbered; the Sync makes nothing sure.
func TestNothingDone(t *testing.T) {
	d := disk.New(3, 64)
	d.Write(1, sector(1))
	d.Cut(0)
	isErr(t, "P11.2", "Write at the cut", d.Write(0, sector(2)), api.ErrDiskDead)
	d.Crash(1)
	holdsAll(t, "P11.2", d, []byte{0, 1, 0})
	d.Write(1, sector(3))
	d.Cut(0)
	isErr(t, "P11.2", "Write at the cut", d.Write(1, sector(4)), api.ErrDiskDead)
	d.Crash(1)
	holdsAll(t, "P11.2", d, []byte{0, 3, 0})
	d.Write(1, sector(5))
	d.Write(2, sector(6))
	d.Cut(0)
	isErr(t, "P11.2", "Sync at the cut", d.Sync(), api.ErrDiskDead)
	d.Crash(2)
	holdsAll(t, "P11.2", d, []byte{0, 3, 6})
}

// TestRefusedDontCount (P11.2): neither Reads nor refused Writes bring a Cut nearer, not even at its edge.
func TestRefusedDontCount(t *testing.T) {
	d := disk.New(2, 64)
	d.Cut(1)
	refused := func() {
		for range 5 {
			isErr(t, "P11.2", "Write elsewhere", d.Write(2, sector(1)), api.ErrDiskPlace)
			isErr(t, "P11.2", "Write elsewhere", d.Write(-1, nil), api.ErrDiskPlace)
			isErr(t, "P11.2", "Write of other bytes", d.Write(0, sector(1)[:63]), api.ErrDiskSize)
			d.Read(0)
			d.Read(7)
			d.Copy()
			if d.Dead() {
				t.Fatal("P11.2: Dead by what is refused")
			}
		}
	}
	refused()
	isErr(t, "P11.2", "Sync ahead of the cut", d.Sync(), api.OK)
	refused()
	isErr(t, "P11.2", "Sync at the cut", d.Sync(), api.ErrDiskDead)
	isDead(t, d)
}

// TestLaterCut (P11.2): a later one takes an earlier one back, whether it is nearer or farther.
func TestLaterCut(t *testing.T) {
	for _, row := range [][2]int{{0, 3}, {3, 0}, {-7, 1}, {2, 2}, {math.MaxInt, 1}, {1, -1}} {
		d := disk.New(1, 64)
		d.Cut(row[0])
		d.Cut(row[1])
		for range max(row[1], 0) {
			isErr(t, "P11.2", "Write ahead of the later cut", d.Write(0, sector(1)), api.OK)
		}
		isErr(t, "P11.2", "Write at the later cut", d.Write(0, sector(1)), api.ErrDiskDead)
	}
	d := disk.New(1, 64)
	d.Cut(2)
	d.Write(0, sector(1))
	d.Cut(2)
	d.Write(0, sector(1))
	isErr(t, "P11.2", "the later cut counts anew", d.Write(0, sector(1)), api.OK)
	isErr(t, "P11.2", "the later cut", d.Write(0, sector(1)), api.ErrDiskDead)
}

// TestDeadTillCrash (P11.2): power comes again by a Crash alone; a Cut that is told meanwhile goes with it.
func TestDeadTillCrash(t *testing.T) {
	d := disk.New(2, 64)
	d.Write(0, sector(1))
	d.Sync()
	d.Write(1, sector(2))
	d.Cut(0)
	d.Sync()
	isDead(t, d)
	for _, n := range []int{5, 0, -1} {
		d.Cut(n)
		isDead(t, d)
	}
	d.Crash(1)
	if d.Dead() {
		t.Error("P11.2: Dead behind a Crash")
	}
	holdsAll(t, "P11.2", d, []byte{1, 2})
	for range 20 {
		isErr(t, "P11.2", "Write behind a Crash", d.Write(0, sector(3)), api.OK)
		isErr(t, "P11.2", "Sync behind a Crash", d.Sync(), api.OK)
	}
}

// TestCrashTakesCutBack (P11.2): one that is still ahead, too.
func TestCrashTakesCutBack(t *testing.T) {
	for n := range 3 {
		d := disk.New(1, 64)
		d.Cut(n)
		d.Crash(0)
		for range 9 {
			isErr(t, "P11.2", "Write behind a Crash", d.Write(0, sector(1)), api.OK)
		}
	}
}

// TestCopy (P11.2): sure and unsure sectors, a Cut and no power go along, and neither disk touches the other.
func TestCopy(t *testing.T) {
	made := func() *disk.Disk {
		d := disk.New(4, 70)
		d.Write(0, full(1, 70))
		d.Write(1, full(2, 70))
		d.Sync()
		d.Write(1, full(3, 70))
		d.Write(2, full(4, 70))
		return d
	}
	d := made()
	c := d.Copy()
	if c.Sectors() != 4 || c.Size() != 70 || c.Dead() {
		t.Errorf("P11.2: a copy of %d sectors of %d", c.Sectors(), c.Size())
	}
	holdsAll(t, "P11.2", c, []byte{1, 3, 4, 0})
	d.Crash(0)
	holdsAll(t, "P11.2", d, []byte{1, 2, 0, 0})
	holdsAll(t, "P11.2", c, []byte{1, 3, 4, 0})
	c.Crash(1)
	holdsAll(t, "P11.2", c, []byte{1, 3, 0, 0})
	d = made()
	c = d.Copy()
	c.Write(0, full(9, 70))
	c.Write(3, full(9, 70))
	c.Sync()
	holdsAll(t, "P11.2", d, []byte{1, 3, 4, 0})
	d.Crash(2)
	holdsAll(t, "P11.2", d, []byte{1, 2, 4, 0})
	holdsAll(t, "P11.2", c, []byte{9, 3, 4, 9})
}

// TestCopyPower (P11.2): each has a Cut of its own, as far on as it was.
func TestCopyPower(t *testing.T) {
	d := disk.New(1, 64)
	d.Cut(2)
	d.Write(0, sector(1))
	c := d.Copy()
	isErr(t, "P11.2", "the copy, ahead of the cut", c.Write(0, sector(2)), api.OK)
	isErr(t, "P11.2", "the copy, at the cut", c.Write(0, sector(3)), api.ErrDiskDead)
	isDead(t, c)
	isErr(t, "P11.2", "the first, ahead of the cut", d.Sync(), api.OK)
	holds(t, "P11.2", d, 0, sector(1))
	isErr(t, "P11.2", "the first, at the cut", d.Sync(), api.ErrDiskDead)
	again := d.Copy()
	isDead(t, again)
	d.Crash(0)
	isDead(t, again)
	again.Crash(0)
	holds(t, "P11.2", again, 0, sector(1))
	c.Crash(1)
	holds(t, "P11.2", c, 0, sector(2))
	plain := disk.New(1, 64)
	c = plain.Copy()
	c.Cut(0)
	isErr(t, "P11.2", "a cut of the copy", plain.Sync(), api.OK)
	isErr(t, "P11.2", "a cut of the copy", c.Sync(), api.ErrDiskDead)
	if plain.Dead() {
		t.Error("P11.2: Dead by its copy")
	}
}

// model: a disk told a second way: each place keeps what was sure and what came behind it.
type model struct {
	size   int
	places [][][]byte
	dead   bool
	power  int // Writes and Syncs that are left; -1: no Cut
}

func newModel(n, size int) *model {
	m := &model{size: size, power: -1}
	for range n {
		m.places = append(m.places, [][]byte{make([]byte, size)})
	}
	return m
}

func (m *model) spent() bool {
	if m.power == 0 {
		m.dead = true
	} else if m.power > 0 {
		m.power--
	}
	return m.dead
}

func (m *model) write(i int, b []byte) api.Errno {
	if m.dead {
		return api.ErrDiskDead
	}
	if uint(i) >= uint(len(m.places)) {
		return api.ErrDiskPlace
	}
	if len(b) != m.size {
		return api.ErrDiskSize
	}
	if m.spent() {
		return api.ErrDiskDead
	}
	m.places[i] = append(m.places[i], bytes.Clone(b))
	return api.OK
}

func (m *model) sync() api.Errno {
	if m.dead || m.spent() {
		return api.ErrDiskDead
	}
	for i, l := range m.places {
		m.places[i] = l[len(l)-1:]
	}
	return api.OK
}

func (m *model) crash(keep uint64) {
	bits := keep
	k := 0
	for i, l := range m.places {
		if len(l) == 1 {
			continue
		}
		if bits%2 == 1 {
			m.places[i] = l[len(l)-1:]
		} else {
			m.places[i] = l[:1:1]
		}
		bits /= 2
		if k++; k%64 == 0 {
			bits = keep
		}
	}
	m.dead, m.power = false, -1
}

func (m *model) copied() *model {
	c := *m
	c.places = nil
	for _, l := range m.places {
		c.places = append(c.places, slices.Clone(l))
	}
	return &c
}

func (m *model) check(t *testing.T, d *disk.Disk) {
	t.Helper()
	if d.Dead() != m.dead || d.Sectors() != len(m.places) || d.Size() != m.size {
		t.Fatalf("P11.2: Dead %v, not %v", d.Dead(), m.dead)
	}
	for i, l := range m.places {
		got, e := d.Read(i)
		if m.dead {
			if e != api.ErrDiskDead || len(got) != 0 {
				t.Fatalf("P11.1: Read without power: error %d", e)
			}
		} else if e != api.OK || !bytes.Equal(got, l[len(l)-1]) {
			t.Fatalf("P11.1: sector %d: error %d, %.8x, not %.8x", i, e, got, l[len(l)-1])
		}
	}
}

// pair: a disk and what it should be.
type pair struct {
	d *disk.Disk
	m *model
}

// step: one call of any kind, told to both.
func (p pair) step(t *testing.T, r *rand.Rand) {
	t.Helper()
	n := len(p.m.places)
	switch x := r.Intn(100); {
	case x < 75:
		i, size := r.Intn(n), p.m.size
		if r.Intn(20) == 0 {
			i = r.Intn(3*n) - n
		}
		if r.Intn(20) == 0 {
			size += r.Intn(3) - 1
		}
		b := anyBytes(r, size)
		isErr(t, "P11.1", "any Write", p.d.Write(i, b), p.m.write(i, b))
	case x < 80:
		isErr(t, "P11.1", "any Sync", p.d.Sync(), p.m.sync())
	case x < 88:
		cut := r.Intn(30) - 3
		p.d.Cut(cut)
		p.m.power = max(cut, 0)
	case x < 96:
		keep := r.Uint64()
		p.d.Crash(keep)
		p.m.crash(keep)
		p.m.check(t, p.d)
	default:
		p.m.check(t, p.d)
	}
}

// TestAnyLife (P11.1, P11.2, P11.3): any calls in any order, copies going on beside the disk.
func TestAnyLife(t *testing.T) {
	for seed := range int64(80) {
		r := rand.New(rand.NewSource(seed))
		n, size := 1+r.Intn(8), 64+r.Intn(3)
		if seed%4 == 0 {
			n = 100 + r.Intn(150)
		}
		l := []pair{{disk.New(n, size), newModel(n, size)}}
		for range 300 {
			p := l[r.Intn(len(l))]
			for range 1 + r.Intn(n) {
				p.step(t, r)
			}
			if r.Intn(50) == 0 && len(l) < 4 {
				l = append(l, pair{p.d.Copy(), p.m.copied()})
			}
			if t.Failed() {
				t.Fatalf("seed %d", seed)
			}
		}
		for _, p := range l {
			p.m.check(t, p.d)
		}
	}
}

// TestSameAgain (P11.2): what a Crash keeps doesn't hang on a map's order.
func TestSameAgain(t *testing.T) {
	r := rand.New(rand.NewSource(3))
	for range 50 {
		keep, order := r.Uint64(), r.Perm(130)
		var first []byte
		for again := range 4 {
			d := disk.New(130, 64)
			for _, i := range order {
				d.Write(i, sector(byte(i+1)))
			}
			d.Crash(keep)
			var all []byte
			for i := range 130 {
				b, _ := d.Read(i)
				all = append(all, b...)
			}
			if again == 0 {
				first = all
			} else if !bytes.Equal(all, first) {
				t.Fatal("P11.2: the same calls again tell another thing")
			}
			slices.Reverse(order)
		}
	}
}
