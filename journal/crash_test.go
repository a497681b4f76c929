package journal_test

import (
	"math"
	"math/rand"
	"slices"
	"testing"

	"signet/api"
	"signet/disk"
	"signet/journal"
)

// state: a journal's records, and how many Commits and Resets there were.
type state struct {
	records [][]byte
	commits uint64
}

func (s state) is(o state) bool { return s.commits == o.commits && sameRecords(s.records, o.records) }

// found: the state that Open finds on a copy of d, which it leaves as it is.
func found(t *testing.T, d *disk.Disk) state {
	t.Helper()
	j, l := open(t, d.Copy())
	return state{l, j.Commits()}
}

// call: a Commit or a Reset of l.
type call struct {
	reset bool
	l     [][]byte
}

func (c call) do(j *journal.Journal) api.Errno {
	if c.reset {
		return j.Reset(c.l)
	}
	return j.Commit(c.l)
}

func (c call) behind(s state) state {
	if c.reset {
		return state{c.l, s.commits + 1}
	}
	return state{append(slices.Clone(s.records), c.l...), s.commits + 1}
}

func anyCall(r *rand.Rand, count, size int) call {
	return call{reset: r.Intn(3) == 0, l: anyRecords(r, count, size)}
}

// keeps: all ways to keep up to 6 sectors, and some ways to keep more.
func keeps(r *rand.Rand) []uint64 {
	l := []uint64{math.MaxUint64}
	for keep := range uint64(64) {
		l = append(l, keep)
	}
	for range 16 {
		l = append(l, r.Uint64())
	}
	return l
}

// crashOpen (P12.3): a crash at each step of Open leaves s.
func crashOpen(t *testing.T, d *disk.Disk, s state) {
	t.Helper()
	for cut := 0; ; cut++ {
		c := d.Copy()
		c.Cut(cut)
		j, l, e := journal.Open(c)
		if e != api.OK && (j != nil || len(l) != 0) {
			t.Fatalf("DOC: beside an error of Open: a journal, or %d records", len(l))
		}
		for keep := range uint64(4) {
			k := c.Copy()
			k.Crash(keep)
			if !found(t, k).is(s) {
				t.Fatalf("P12.3: a crash at step %d of Open lost something", cut)
			}
		}
		if e == api.OK {
			return
		}
		isErr(t, "P12.1", "Open at a cut", e, api.ErrDiskDead)
	}
}

// crashCall (P12.3): a crash at each step of x, keeping whatever it may, leaves the state of ahead of it or of behind
// it. How often it was which is answered.
func crashCall(t *testing.T, r *rand.Rand, d *disk.Disk, x call) (aheads, behinds int) {
	t.Helper()
	ahead := found(t, d)
	behind := x.behind(ahead)
	for cut := 0; ; cut++ {
		c := d.Copy()
		j, _ := open(t, c)
		room := j.Room()
		c.Cut(cut)
		e := x.do(j)
		if e == api.ErrLogFull {
			return 0, 0
		}
		for _, keep := range keeps(r) {
			k := c.Copy()
			k.Crash(keep)
			switch s := found(t, k); {
			case e != api.OK && s.is(ahead):
				aheads++
			case s.is(behind):
				behinds++
			default:
				t.Fatalf("P12.3: error %d at step %d, kept %x: %d records, %d commits", e, cut, keep, len(s.records), s.commits)
			}
			if r.Intn(20) == 0 {
				crashOpen(t, k, found(t, k))
			}
		}
		if e == api.OK {
			return aheads, behinds
		}
		isErr(t, "P12.1", "a call at a cut", e, api.ErrDiskDead)
		if j.Commits() != ahead.commits || j.Room() != room {
			t.Fatalf("DOC: beside an error: Commits %d, Room %d", j.Commits(), j.Room())
		}
	}
}

// TestCrashAtEachStep (P12.3): Commits and Resets of none, one, several records, behind any life.
func TestCrashAtEachStep(t *testing.T) {
	r := rand.New(rand.NewSource(20))
	aheads, behinds := 0, 0
	for round := range 150 {
		d := disk.New(8+r.Intn(14), 64+r.Intn(10))
		if round%10 > 0 {
			made(t, r, d)
		}
		calls := []call{
			{false, nil}, {true, nil}, {false, texts("")}, {true, texts("")},
			{false, texts("one", "two")}, {true, texts("one", "two")},
			anyCall(r, 3, 150), anyCall(r, 8, 30), {round%2 == 0, [][]byte{anyBytes(r, 200)}},
		}
		for _, x := range calls {
			a, b := crashCall(t, r, d, x)
			aheads, behinds = aheads+a, behinds+b
		}
	}
	if aheads == 0 || behinds == 0 {
		t.Errorf("P12.3: %d times ahead, %d times behind", aheads, behinds)
	}
}

// TestCrashSameBytes (P12.3): what lies there from ahead of a Reset looks like what a crash kept, and mustn't count.
func TestCrashSameBytes(t *testing.T) {
	r := rand.New(rand.NewSource(21))
	l := texts("aaaaaaaaaaaaaaaaaaaaaaaaaaaaaaaaaaaaaaaaaaaaaaaaaaaaaaaa", "b", "cccccccccccccccccccccccccccccccccc")
	d := disk.New(16, 64)
	j, _ := open(t, d)
	for range 6 {
		for _, x := range []call{{false, l}, {true, l}, {true, l[:1]}, {false, l[1:]}, {true, nil}, {false, l[:2]}} {
			crashCall(t, r, d, x)
			isErr(t, "P12.1", "a call", x.do(j), api.OK)
		}
	}
}

// TestCrashInFirstOpen (P12.3): of noughts, a crash at any step of Open leaves a new journal; so does one of a first call.
func TestCrashInFirstOpen(t *testing.T) {
	r := rand.New(rand.NewSource(22))
	for _, n := range []int{8, 9, 100} {
		crashOpen(t, disk.New(n, 64), state{})
		for _, x := range []call{{false, nil}, {true, texts("x")}, {false, texts("one", "two", "")}, {true, [][]byte{anyBytes(r, 150)}}} {
			crashCall(t, r, disk.New(n, 64), x)
		}
	}
}

// TestManySectors (P12.3): records over more sectors than keep has bits.
func TestManySectors(t *testing.T) {
	r := rand.New(rand.NewSource(23))
	d := disk.New(400, 64)
	j, _ := open(t, d)
	isErr(t, "P12.1", "Commit", j.Commit([][]byte{anyBytes(r, 1000)}), api.OK)
	ahead := found(t, d)
	for _, x := range []call{{false, [][]byte{anyBytes(r, 9000), anyBytes(r, 500)}}, {true, [][]byte{anyBytes(r, 6000)}}} {
		behind := x.behind(ahead)
		for cut := range 160 {
			c := d.Copy()
			k, _ := open(t, c)
			c.Cut(cut)
			e := x.do(k)
			c.Crash(r.Uint64())
			if s := found(t, c); !s.is(behind) && (e == api.OK || !s.is(ahead)) {
				t.Fatalf("P12.3: step %d: %d records", cut, len(s.records))
			}
		}
	}
}

// TestSureBehindOk (P12.1, P12.4): what was answered with OK is there whatever a crash keeps, at once.
func TestSureBehindOk(t *testing.T) {
	r := rand.New(rand.NewSource(24))
	for range 100 {
		d := disk.New(30, 64)
		j, _ := open(t, d)
		s := state{}
		for range 8 {
			x := anyCall(r, 2, 60)
			if x.do(j) != api.OK {
				continue
			}
			s = x.behind(s)
			d.Crash(r.Uint64())
			if !found(t, d).is(s) {
				t.Fatal("P12.4: what was sure is gone")
			}
		}
	}
}

// failedLife: a journal whose last calls failed at crashes; what it knows, and what lies on its disk.
func failedLife(t *testing.T, seed int64) (d *disk.Disk, j *journal.Journal, known, lying state) {
	t.Helper()
	r := rand.New(rand.NewSource(seed))
	d = disk.New(12+r.Intn(20), 64)
	j, have, commits := made(t, r, d)
	known = state{have, commits}
	for range 1 + r.Intn(3) {
		x := anyCall(r, 2, 90)
		d.Cut(r.Intn(7))
		if x.do(j) == api.OK {
			known = x.behind(known)
		}
		d.Crash(r.Uint64())
		if j.Commits() != known.commits {
			t.Fatalf("DOC: Commits %d, not %d", j.Commits(), known.commits)
		}
	}
	return d, j, known, found(t, d)
}

// TestGoOn (P12.1, P12.3; DOC, 4): a journal whose call failed goes on, once there is power, as if that had never been
// called. A crash in going on finds what lay on the disk, or what the journal knew, or what it was told now.
func TestGoOn(t *testing.T) {
	left := 0
	for seed := range int64(1500) {
		r := rand.New(rand.NewSource(seed))
		x := anyCall(r, 2, 60)
		e := api.ErrDiskDead
		for cut := 0; e == api.ErrDiskDead; cut++ {
			d, j, known, lying := failedLife(t, seed)
			if !lying.is(known) {
				left++
			}
			d.Cut(cut)
			if e = x.do(j); e == api.ErrLogFull {
				break
			}
			d.Crash(r.Uint64())
			s := found(t, d)
			if !s.is(x.behind(known)) && (e == api.OK || !s.is(known) && !s.is(lying)) {
				t.Fatalf("P12.3: seed %d, error %d at step %d: %d records, %d commits", seed, e, cut, len(s.records), s.commits)
			}
		}
	}
	if left == 0 {
		t.Error("P12.3: no failed call left anything")
	}
}

// TestAnyLife (P12.1 to P12.4): calls, cuts, crashes and openings in any order, against what should be there.
func TestAnyLife(t *testing.T) {
	for seed := range int64(400) {
		r := rand.New(rand.NewSource(seed))
		d := disk.New(8+r.Intn(60), 64+r.Intn(100))
		j, _ := open(t, d)
		s := state{}
		for range 60 {
			x := anyCall(r, 3, 2*d.Size())
			cut := r.Intn(3) == 0
			if cut {
				d.Cut(r.Intn(12))
			}
			room := j.Room()
			e := x.do(j)
			if e == api.ErrLogFull && !x.reset && (len(x.l) == 1 && len(x.l[0]) <= room || cost(x.l)+2*d.Size() <= room) {
				t.Fatalf("P12.2: ErrLogFull of %d records, Room %d", len(x.l), room)
			}
			ahead := s
			if e == api.OK {
				s = x.behind(s)
			}
			if !cut && r.Intn(4) > 0 {
				continue
			}
			for range r.Intn(3) {
				d.Crash(r.Uint64())
				d.Cut(r.Intn(3))
				journal.Open(d)
			}
			d.Crash(r.Uint64())
			var l [][]byte
			j, l = open(t, d)
			now := state{l, j.Commits()}
			if !now.is(s) && (e != api.ErrDiskDead || !now.is(x.behind(ahead))) {
				t.Fatalf("P12.3: seed %d: error %d: %d records, %d commits, not %d, %d", seed, e, len(l), j.Commits(), len(s.records), s.commits)
			}
			s = now
		}
	}
}
