package lookup_test

import (
	"bytes"
	"slices"
	"sync"
	"testing"

	"signet/api"
	"signet/lookup"
	"signet/name"
	"signet/zone"
)

// many: a zone that has something of each kind.
func many(t *testing.T) *zone.Zone {
	t.Helper()
	return zoned(t, "Example", rec("example", 6, soa), ns("example", "ns.example"), host("ns.example", "1234"), host6("ns.example", "1234"),
		ns("sub.example", "a.sub.example"), ns("sub.example", "B.sub.example"), ds("sub.example", "x"), host("a.sub.example", "1234"), host6("a.sub.example", "1234"), host("b.sub.example", "1234"), host("b.sub.example", "1235"),
		alias("alias.example", "Q.wild.example"), alias("*.wild.example", "r.tame.example"), text("*.tame.example", "t"), text("*.tame.example", "u"), alias("down.example", "alias.sub.example"), alias("out.example", "Far.net"))
}

// asked: questions with answers of each kind.
func asked() []api.Name {
	var out []api.Name
	for _, s := range []string{"EXAMPLE", "Ns.Example", "Sub.example", "q.sub.Example", "Alias.example", "q.WILD.example", "q.tame.example", "Down.example", "out.example", "No.example", "Wild.example", "FAR.net", ".", "x.y.z.Example"} {
		out = append(out, named(s))
	}
	return out
}

// records: a zone's, as text.
func records(z *zone.Zone) string {
	var out bytes.Buffer
	for _, r := range z.Records() {
		out.WriteString(set(api.Set{Name: r.Name, Type: r.Type, Ttl: r.Ttl, Data: [][]byte{r.Data}}))
	}
	return out.String()
}

// TestKeptNothing (DOC, 3): the zone, and the name with the room behind it,
// are as they were.
func TestKeptNothing(t *testing.T) {
	z := many(t)
	before, count := records(z), z.Len()
	for _, n := range asked() {
		for _, kind := range []uint16{0, 1, 5, 16, 43, 255} {
			given := append(slices.Clone(n), "spare", "room")
			lookup.Find(z, given[:len(n)], kind)
			lookup.Closest(z, given[:len(n)])
			if !slices.Equal(given, append(slices.Clone(n), "spare", "room")) {
				t.Errorf("DOC, 3: %q is %q now", n, given)
			}
			if records(z) != before || z.Len() != count {
				t.Fatalf("DOC, 3: %q %d changed the zone", n, kind)
			}
		}
	}
}

// lists: all names that f has, and all data.
func lists(f lookup.Found) ([]api.Name, [][]byte) {
	names := append(slices.Clone(f.Wild), f.At)
	var data [][]byte
	for _, s := range slices.Concat(f.Answers, f.Auth, f.Add) {
		names = append(names, s.Name)
		data = append(data, s.Data...)
	}
	return names, data
}

// TestNewMemory (DOC, 3): each list of an answer is its own: another's, the
// zone's and the name's that was asked aren't changed with it.
func TestNewMemory(t *testing.T) {
	z := many(t)
	for _, n := range asked() {
		for _, kind := range []uint16{0, 1, 5, 6, 16, 43, 255} {
			given := slices.Clone(n)
			f, again := lookup.Find(z, given, kind), lookup.Find(z, given, kind)
			want := told(again)
			names, data := lists(f)
			for i, x := range names {
				if full := x[:cap(x)]; i%2 == 0 && len(full) > 0 {
					names[i] = append(slices.Clone(x), "own")[:len(x)]
					for k := range full {
						full[k] = "spoilt"
					}
				}
			}
			for i, x := range names {
				if i%2 == 1 && slices.Contains(x[:cap(x)], "spoilt") {
					t.Errorf("DOC, 3: %q %d: name %d shares memory", n, kind, i)
				}
			}
			for i, x := range data {
				full := x[:cap(x)]
				before := slices.Concat(data[:i]...)
				behind := slices.Concat(data[i+1:]...)
				for k := range full {
					full[k] ^= 0x55
				}
				if !bytes.Equal(before, slices.Concat(data[:i]...)) || !bytes.Equal(behind, slices.Concat(data[i+1:]...)) {
					t.Errorf("DOC, 3: %q %d: data %d share memory", n, kind, i)
				}
			}
			if !slices.Equal(given, n) || told(again) != want || told(lookup.Find(z, n, kind)) != want {
				t.Errorf("DOC, 3: %q %d: an answer shares memory", n, kind)
			}
		}
	}
}

// TestNewNames (DOC, 3): the two names of Closest share memory with nothing.
func TestNewNames(t *testing.T) {
	z := many(t)
	for _, n := range asked() {
		given := slices.Clone(n)
		a, b := lookup.Closest(z, given)
		next := name.Text(b)
		a = a[:cap(a)]
		for i := range a {
			a[i] = "spoilt"
		}
		if name.Text(b) != next || !slices.Equal(given, n) {
			t.Errorf("DOC, 3: %q: %q", given, b)
		}
		for i := range b {
			b[i] = "spoilt"
		}
		if !slices.Equal(given, n) {
			t.Errorf("DOC, 3: %q", given)
		}
	}
}

// TestOneAnswer (P16.3): a question has the same answer whenever, however
// written, and beside others; by another zone of the same records too.
func TestOneAnswer(t *testing.T) {
	z := many(t)
	other := zone.New(named("example"))
	list := z.Records()
	slices.Reverse(list)
	for _, r := range list {
		other.Put(r)
	}
	type question struct {
		n    api.Name
		kind uint16
	}
	var all []question
	var first []string
	for _, n := range asked() {
		for _, kind := range []uint16{0, 1, 2, 5, 6, 16, 28, 43, 255} {
			all = append(all, question{n, kind})
			first = append(first, told(lookup.Find(z, n, kind)))
		}
	}
	var group sync.WaitGroup
	for range 8 {
		group.Go(func() {
			for i, q := range all {
				for _, z := range []*zone.Zone{z, z.Copy(), other} {
					if got := told(lookup.Find(z, q.n, q.kind)); got != first[i] {
						t.Errorf("P16.3: %q %d: %s, then %s", q.n, q.kind, first[i], got)
					}
				}
				f, small := lookup.Find(z, q.n, q.kind), lookup.Find(z, name.Lower(q.n), q.kind)
				if !name.Same(f.At, small.At) {
					t.Errorf("P16.3: %q %d: At", q.n, q.kind)
				}
				f.At, small.At = nil, nil
				if told(f) != told(small) {
					t.Errorf("P16.3: %q %d: %s, in small letters %s", q.n, q.kind, told(f), told(small))
				}
			}
		})
	}
	group.Wait()
}
