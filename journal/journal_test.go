package journal_test

import (
	"bytes"
	"math/rand"
	"slices"
	"testing"

	"signet/api"
	"signet/disk"
	"signet/journal"
)

func anyBytes(r *rand.Rand, n int) []byte {
	b := make([]byte, n)
	r.Read(b)
	return b
}

// texts: records of these texts.
func texts(l ...string) [][]byte {
	var out [][]byte
	for _, x := range l {
		out = append(out, []byte(x))
	}
	return out
}

// anyRecords: up to count records of up to size bytes.
func anyRecords(r *rand.Rand, count, size int) [][]byte {
	var l [][]byte
	for range r.Intn(count + 1) {
		l = append(l, anyBytes(r, r.Intn(size+1)))
	}
	return l
}

// cost: what P12.2 counts for records: their bytes, and 16 for each.
func cost(l [][]byte) int {
	n := 16 * len(l)
	for _, x := range l {
		n += len(x)
	}
	return n
}

func sameRecords(a, b [][]byte) bool { return slices.EqualFunc(a, b, bytes.Equal) }

func isErr(t *testing.T, promise, what string, got, want api.Errno) {
	t.Helper()
	if got != want {
		t.Fatalf("%s: %s: error %d, not %d", promise, what, got, want)
	}
}

func open(t *testing.T, d *disk.Disk) (*journal.Journal, [][]byte) {
	t.Helper()
	j, l, e := journal.Open(d)
	if e != api.OK || j == nil {
		t.Fatalf("P12.1: Open: error %d", e)
	}
	return j, l
}

// holds: what is on d is a journal of these records and so many commits, and j says the same of its room.
func holds(t *testing.T, promise string, d *disk.Disk, j *journal.Journal, want [][]byte, commits uint64) {
	t.Helper()
	k, got := open(t, d.Copy())
	if !sameRecords(got, want) {
		t.Fatalf("%s: %d records, not the %d that there should be", promise, len(got), len(want))
	}
	if j.Commits() != commits || k.Commits() != commits {
		t.Fatalf("%s: Commits %d, opened again %d, not %d", promise, j.Commits(), k.Commits(), commits)
	}
	if k.Room() != j.Room() {
		t.Fatalf("%s: Room %d, opened again %d", promise, j.Room(), k.Room())
	}
}

// refused: Open of d answers e, and nothing beside it.
func refused(t *testing.T, what string, d *disk.Disk, want api.Errno) {
	t.Helper()
	j, l, e := journal.Open(d)
	isErr(t, "P12.1", what, e, want)
	if j != nil || len(l) != 0 {
		t.Fatalf("P12.1: %s: beside an error: a journal, or %d records", what, len(l))
	}
}

// sectors: all that d has.
func sectors(t *testing.T, d *disk.Disk) [][]byte {
	t.Helper()
	var l [][]byte
	for i := range d.Sectors() {
		b, e := d.Read(i)
		isErr(t, "P11.1", "Read", e, api.OK)
		l = append(l, b)
	}
	return l
}

// forms: numbers of sectors and their bytes, the least and the greatest ones among them.
func forms() [][2]int {
	l := [][2]int{{4096, 64}, {8, 4096}, {100, 4096}, {1000, 512}}
	for n := 8; n < 40; n++ {
		for _, s := range []int{64, 65, 71, 100, 128, 511} {
			l = append(l, [2]int{n, s})
		}
	}
	return l
}

// TestExample (P12.1, P12.4): the chapter's.
func TestExample(t *testing.T) {
	d := disk.New(8, 64)
	j, l := open(t, d)
	if len(l) != 0 {
		t.Errorf("P12.1: a new journal has %d records", len(l))
	}
	isErr(t, "P12.1", "Commit", j.Commit(texts("one", "two")), api.OK)
	holds(t, "P12.4", d, j, texts("one", "two"), 1)
}

// TestOrder (P12.1): many Commits of none, one and several records, empty ones and the same ones again among them.
func TestOrder(t *testing.T) {
	r := rand.New(rand.NewSource(2))
	for _, x := range [][2]int{{16, 64}, {60, 100}, {300, 512}} {
		d := disk.New(x[0], x[1])
		j, _ := open(t, d)
		var have [][]byte
		commits := uint64(0)
		for range 60 {
			l := anyRecords(r, 4, 3*x[1])
			switch r.Intn(8) {
			case 0:
				l = nil
			case 1:
				l = texts("", "")
			case 2:
				l = texts("same", "same")
			case 3:
				l = [][]byte{nil, make([]byte, x[1]), {}}
			}
			if cost(l)+2*x[1] > j.Room() {
				continue
			}
			isErr(t, "P12.2", "Commit with room enough", j.Commit(l), api.OK)
			have = append(have, l...)
			commits++
			holds(t, "P12.1", d, j, have, commits)
		}
		if commits == 0 {
			t.Errorf("P12.2: no Commit of %v had room", x)
		}
	}
}

// TestEmpty (P12.1): empty records stand where they were put, within a Commit, between two, behind a Reset.
func TestEmpty(t *testing.T) {
	lists := [][][]byte{texts(""), texts("a"), texts("", "", "b", ""), nil, texts("c", "", "d"), texts("", "")}
	for first := range lists {
		for second := range lists {
			d := disk.New(16, 64)
			j, _ := open(t, d)
			isErr(t, "P12.1", "Commit", j.Commit(texts("", "x", "")), api.OK)
			isErr(t, "P12.1", "Reset", j.Reset(lists[first]), api.OK)
			holds(t, "P12.1", d, j, lists[first], 2)
			have := slices.Clone(lists[first])
			for k := range lists {
				l := lists[(second+k)%len(lists)]
				isErr(t, "P12.1", "Commit", j.Commit(l), api.OK)
				have = append(have, l...)
				holds(t, "P12.1", d, j, have, uint64(k+3))
			}
		}
	}
}

// TestLengths (P12.1): records that end at, ahead of and behind a sector's end, at each place in a sector.
func TestLengths(t *testing.T) {
	r := rand.New(rand.NewSource(3))
	for first := range 70 {
		for second := range 140 {
			d := disk.New(20, 64)
			j, _ := open(t, d)
			a, b, c := anyBytes(r, first), anyBytes(r, second), anyBytes(r, 1)
			isErr(t, "P12.1", "Commit", j.Commit([][]byte{a}), api.OK)
			isErr(t, "P12.1", "Commit", j.Commit([][]byte{b}), api.OK)
			isErr(t, "P12.1", "Commit", j.Commit([][]byte{c}), api.OK)
			holds(t, "P12.1", d, j, [][]byte{a, b, c}, 3)
		}
	}
}

// TestReset (P12.1): l's records are all there are then, however many there were; Commits go on behind them.
func TestReset(t *testing.T) {
	r := rand.New(rand.NewSource(4))
	d := disk.New(40, 64)
	j, _ := open(t, d)
	fresh := j.Room()
	commits := uint64(0)
	for range 100 {
		l := anyRecords(r, 3, 60)
		isErr(t, "P12.1", "Reset", j.Reset(l), api.OK)
		commits++
		holds(t, "P12.1", d, j, l, commits)
		for range r.Intn(4) {
			more := anyRecords(r, 2, 50)
			isErr(t, "P12.1", "Commit behind a Reset", j.Commit(more), api.OK)
			l = append(l, more...)
			commits++
			holds(t, "P12.1", d, j, l, commits)
		}
	}
	isErr(t, "P12.1", "Reset to nothing", j.Reset(nil), api.OK)
	holds(t, "P12.1", d, j, nil, commits+1)
	if j.Room() != fresh {
		t.Errorf("P12.1: Room %d behind a Reset to nothing, %d of a new one", j.Room(), fresh)
	}
}

// TestNewRoom (P12.2): how much a new journal has, and that a record may have all of it.
func TestNewRoom(t *testing.T) {
	r := rand.New(rand.NewSource(5))
	for _, x := range append(forms(), [2]int{4096, 4096}) {
		d := disk.New(x[0], x[1])
		j, _ := open(t, d)
		room := j.Room()
		if room < x[0]*x[1]/4-2*x[1] || room < (x[0]*x[1]-2*x[1])/4 {
			t.Errorf("P12.2: Room of %v: %d", x, room)
		}
		whole := anyBytes(r, room)
		isErr(t, "P12.1", "Commit of Room's bytes", j.Commit([][]byte{whole}), api.OK)
		holds(t, "P12.1", d, j, [][]byte{whole}, 1)
		isErr(t, "P12.1", "Commit of one byte", j.Commit(texts("x")), api.ErrLogFull)
		holds(t, "P12.1", d, j, [][]byte{whole}, 1)
		if j.Room() != 0 {
			t.Errorf("P12.1: Room %d where there is none", j.Room())
		}
		isErr(t, "P12.1", "Commit of no bytes, Room 0", j.Commit(texts("")), api.OK)
		holds(t, "P12.1", d, j, [][]byte{whole, nil}, 2)
	}
}

// TestRoomHolds (P12.1, P12.2): at each point a record of Room's bytes has room, one byte more hasn't.
func TestRoomHolds(t *testing.T) {
	r := rand.New(rand.NewSource(6))
	for _, x := range [][2]int{{8, 64}, {9, 70}, {13, 64}, {30, 128}} {
		for range 30 {
			d := disk.New(x[0], x[1])
			j, _ := open(t, d)
			var have [][]byte
			for commits := uint64(0); commits < 100; commits++ {
				room := j.Room()
				isErr(t, "P12.1", "Commit of more than Room", j.Commit([][]byte{anyBytes(r, room+1)}), api.ErrLogFull)
				c := d.Copy()
				k, _ := open(t, c)
				most := anyBytes(r, room)
				isErr(t, "P12.1", "Commit of Room's bytes", k.Commit([][]byte{most}), api.OK)
				holds(t, "P12.1", c, k, append(slices.Clone(have), most), commits+1)
				next := anyBytes(r, r.Intn(min(room, 40)+1))
				isErr(t, "P12.1", "Commit within Room", j.Commit([][]byte{next}), api.OK)
				have = append(have, next)
				if j.Room() < room-len(next)-16-2*x[1] {
					t.Fatalf("P12.2: %d bytes took Room from %d to %d", len(next), room, j.Room())
				}
			}
		}
	}
}

// TestTakesOff (P12.2): many records at once, at the edge of what Room promises or within it, and what they take off.
func TestTakesOff(t *testing.T) {
	r := rand.New(rand.NewSource(7))
	for _, x := range forms() {
		d := disk.New(x[0], x[1])
		j, _ := open(t, d)
		for range 30 {
			room := j.Room()
			if room < 2*x[1]+16 {
				break
			}
			left := room - 2*x[1]
			if r.Intn(2) == 0 {
				left = 16 + r.Intn(left-15)
			}
			var l [][]byte
			for left >= 16 {
				n := min(r.Intn(2)*r.Intn(x[1]), left-16)
				l = append(l, anyBytes(r, n))
				left -= n + 16
			}
			isErr(t, "P12.2", "Commit of as much as Room promises", j.Commit(l), api.OK)
			if j.Room() < room-cost(l)-2*x[1] {
				t.Fatalf("P12.2: %v: %d took Room from %d to %d", x, cost(l), room, j.Room())
			}
		}
	}
}

// eighths: records that, with 16 for each, have at most limit: one, many empty ones, any.
func eighths(r *rand.Rand, limit int) [][][]byte {
	if limit < 16 {
		return [][][]byte{nil}
	}
	var mixed [][]byte
	for left := limit; left >= 16; {
		n := r.Intn(min(left-16, 90) + 1)
		mixed = append(mixed, anyBytes(r, n))
		left -= n + 16
	}
	return [][][]byte{nil, {anyBytes(r, limit-16)}, make([][]byte, limit/16), mixed}
}

// TestResetRoom (P12.1): at most an eighth always has room, in a journal that is full, through openings too.
func TestResetRoom(t *testing.T) {
	r := rand.New(rand.NewSource(8))
	for _, x := range forms() {
		d := disk.New(x[0], x[1])
		j, _ := open(t, d)
		commits := uint64(0)
		limit := max(x[0]*x[1]/8-2*x[1], (x[0]-2)*x[1]/8)
		for _, l := range eighths(r, limit) {
			isErr(t, "P12.1", "Commit of Room's bytes", j.Commit([][]byte{anyBytes(r, j.Room())}), api.OK)
			isErr(t, "P12.1", "Reset in a full journal", j.Reset(l), api.OK)
			commits += 2
			holds(t, "P12.1", d, j, l, commits)
			if r.Intn(2) == 0 {
				j, _ = open(t, d)
			}
		}
	}
}

// TestFull (P12.1): ErrLogFull comes ahead of the disk's error, takes no step of the disk's, and changes nothing.
func TestFull(t *testing.T) {
	d := disk.New(12, 64)
	j, _ := open(t, d)
	have := texts("one", "", "three")
	isErr(t, "P12.1", "Commit", j.Commit(have), api.OK)
	big := make([]byte, 1<<20)
	many := make([][]byte, 1<<20)
	for i := range many {
		many[i] = big
	}
	lists := [][][]byte{{make([]byte, 12*64)}, append(texts("fits"), big), slices.Repeat(texts("x"), 12*64), many}
	was := sectors(t, d)
	check := func(what string) {
		t.Helper()
		room := j.Room()
		for _, l := range lists {
			isErr(t, "P12.1", what+": Commit", j.Commit(l), api.ErrLogFull)
			isErr(t, "P12.1", what+": Reset", j.Reset(l), api.ErrLogFull)
		}
		if j.Room() != room || j.Commits() != 1 {
			t.Fatalf("P12.1: %s: Room %d, Commits %d", what, j.Room(), j.Commits())
		}
	}
	check("power")
	d.Cut(0)
	check("a cut ahead")
	if d.Dead() {
		t.Fatal("P12.1: what has no room came to the disk")
	}
	d.Sync()
	check("no power")
	d.Crash(0)
	if !slices.EqualFunc(was, sectors(t, d), bytes.Equal) {
		t.Error("P12.1: what has no room changed the disk")
	}
	holds(t, "P12.1", d, j, have, 1)
}

// TestDead (P12.1): the disk's error of each call, beside which nothing changes; Room and Commits need no power.
func TestDead(t *testing.T) {
	d := disk.New(12, 64)
	j, _ := open(t, d)
	isErr(t, "P12.1", "Commit", j.Commit(texts("one")), api.OK)
	room := j.Room()
	d.Cut(0)
	for _, l := range [][][]byte{nil, texts("two"), texts("", "x")} {
		isErr(t, "P12.1", "Commit without power", j.Commit(l), api.ErrDiskDead)
		isErr(t, "P12.1", "Reset without power", j.Reset(l), api.ErrDiskDead)
	}
	refused(t, "Open without power", d, api.ErrDiskDead)
	if j.Room() != room || j.Commits() != 1 {
		t.Errorf("P12.1: without power: Room %d, Commits %d", j.Room(), j.Commits())
	}
	d.Crash(0)
	holds(t, "P12.1", d, j, texts("one"), 1)
	isErr(t, "P12.1", "Commit with power again", j.Commit(texts("two")), api.OK)
	holds(t, "P12.1", d, j, texts("one", "two"), 2)
	empty := disk.New(9, 64)
	empty.Cut(0)
	empty.Sync()
	refused(t, "Open of noughts without power", empty, api.ErrDiskDead)
}

// TestCommits (P12.1): what was done counts, through openings; what was refused doesn't.
func TestCommits(t *testing.T) {
	d := disk.New(8, 64)
	for commits := uint64(0); commits < 300; commits++ {
		j, _ := open(t, d)
		if j.Commits() != commits {
			t.Fatalf("P12.1: Commits %d, not %d", j.Commits(), commits)
		}
		isErr(t, "P12.1", "no room", j.Commit([][]byte{make([]byte, 999)}), api.ErrLogFull)
		switch commits % 3 {
		case 0:
			isErr(t, "P12.1", "Commit of nothing", j.Commit(nil), api.OK)
		case 1:
			isErr(t, "P12.1", "Reset to nothing", j.Reset([][]byte{}), api.OK)
		case 2:
			isErr(t, "P12.1", "Reset", j.Reset(texts("x")), api.OK)
		}
		if j.Commits() != commits+1 {
			t.Fatalf("P12.1: Commits %d, not %d", j.Commits(), commits+1)
		}
	}
}

// TestOpenAgain (P12.1): opening once more doesn't disturb the journal that is in use.
func TestOpenAgain(t *testing.T) {
	r := rand.New(rand.NewSource(9))
	d := disk.New(60, 64)
	j, _ := open(t, d)
	open(t, d)
	var have [][]byte
	for commits := range uint64(20) {
		l := anyRecords(r, 2, 30)
		isErr(t, "P12.1", "Commit", j.Commit(l), api.OK)
		have = append(have, l...)
		if _, got := open(t, d); !sameRecords(got, have) {
			t.Fatalf("P12.1: %d records, not %d", len(got), len(have))
		}
		holds(t, "P12.1", d, j, have, commits+1)
	}
}

// TestOwnMemory (DOC, 3): what is handed in stays as it is and isn't kept; what is answered is new memory, each record for itself.
func TestOwnMemory(t *testing.T) {
	d := disk.New(30, 64)
	j, _ := open(t, d)
	room := []byte("onetwothree, and room behind")
	was := bytes.Clone(room)
	l := [][]byte{room[:3], room[3:6], room[6:11], room[5:5], []byte("more")}
	want := texts("one", "two", "three", "")
	for _, call := range []func([][]byte) api.Errno{j.Commit, j.Reset} {
		isErr(t, "DOC", "call", call(l[:4]), api.OK)
		if !bytes.Equal(room, was) || string(l[4]) != "more" || len(l[0]) != 3 {
			t.Fatal("DOC: what was handed in was changed")
		}
		for i := range room {
			room[i] = 'x'
		}
		l[1] = nil
		for range 2 {
			_, got := open(t, d)
			if !sameRecords(got, want) {
				t.Fatalf("DOC: %q", got)
			}
			for i, x := range got {
				for k := range x[:cap(x)] {
					x[:cap(x)][k] = '!'
				}
				if rest := got[i+1:]; !sameRecords(rest, want[i+1:]) {
					t.Fatalf("DOC: record %d shares memory with one behind it: %q", i, got)
				}
			}
		}
		copy(room, was)
		l[1] = room[3:6]
	}
}

// TestSameAgain (DOC, 8): the same calls again leave the same sectors.
func TestSameAgain(t *testing.T) {
	live := func() *disk.Disk {
		r := rand.New(rand.NewSource(10))
		d := disk.New(30, 64)
		j, _ := open(t, d)
		for range 40 {
			if r.Intn(4) == 0 {
				j.Reset(anyRecords(r, 3, 60))
			} else {
				j.Commit(anyRecords(r, 3, 60))
			}
			if r.Intn(5) == 0 {
				j, _ = open(t, d)
			}
		}
		return d
	}
	if !slices.EqualFunc(sectors(t, live()), sectors(t, live()), bytes.Equal) {
		t.Error("DOC: the same calls again leave other sectors")
	}
}
