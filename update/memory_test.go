package update_test

import (
	"bytes"
	"slices"
	"strings"
	"sync"
	"testing"

	"signet/api"
	"signet/update"
)

// roomy: r, with labels and bytes in the spare room behind its own.
func roomy(r api.Record) api.Record {
	n := append(slices.Clone(r.Name), "spare", "room")
	data := append(bytes.Clone(r.Data), "spare"...)
	r.Name, r.Data = n[:len(r.Name)], data[:len(r.Data)]
	return r
}

// everything: what r is, with the spare room.
func everything(r api.Record) string {
	return told(r) + strings.Join(r.Name[:cap(r.Name)], ".") + string(r.Data[:cap(r.Data)])
}

// spoil: other labels and bytes in r, and in the spare room behind them.
func spoil(r api.Record) {
	n := r.Name[:cap(r.Name)]
	for i := range n {
		n[i] = "spoilt"
	}
	b := r.Data[:cap(r.Data)]
	for i := range b {
		b[i] ^= 0x55
	}
}

// changing: an update of common's zone that does something of each kind.
func changing() api.Message {
	pre := []api.Record{of("host.a.example", 1, 1, "bbbb"), of("Host.a.example", 1, 1, "cccc"), of("q.example", 255, 254, "")}
	l := []api.Record{rec("Host.a.example", 1, 5, "dddd"), alias("ALIAS.example", "X"), rec("example", 6, 5, soaData("X", 20)), gone("Sub.example", 255), not("NS.example", 1, "aaaa"), ns("example", "B"), host("B.example", "bbbb")}
	m := message(pre, l)
	for _, part := range [][]api.Record{m.Answers, m.Auth} {
		for i, r := range part {
			part[i] = roomy(r)
		}
	}
	return m
}

// given: what a message is, with the spare room of its records.
func given(m api.Message) string {
	var out []string
	for _, q := range m.Questions {
		out = append(out, strings.Join(q.Name[:cap(q.Name)], "."))
	}
	for _, r := range slices.Concat(m.Answers, m.Auth) {
		out = append(out, everything(r))
	}
	return strings.Join(out, "\n")
}

// TestKeptNothing (DOC, 3): what is handed in stays as it was, and isn't kept;
// what is asked, and what is refused, doesn't change the zone.
func TestKeptNothing(t *testing.T) {
	z := common(t)
	before := all(z)
	m := changing()
	want := given(m)
	if update.Prereq(z, m.Answers) != 0 || update.Scan(z, 60, m.Auth) != 0 || !slices.Equal(all(z), before) {
		t.Error("DOC, 3: Prereq or Scan")
	}
	if code, _ := update.Apply(z, 29, m); code != 5 || !slices.Equal(all(z), before) || given(m) != want {
		t.Errorf("DOC, 3: %d", code)
	}
	if code, l := update.Apply(z, 60, m); code != 0 || len(l) == 0 || given(m) != want {
		t.Errorf("DOC, 3: %d, %s", code, given(m))
	}
	behind := all(z)
	for _, r := range slices.Concat(m.Answers, m.Auth) {
		spoil(r)
	}
	m.Questions[0].Name[0] = "spoilt"
	if !slices.Equal(all(z), behind) || slices.Equal(before, behind) {
		t.Errorf("DOC, 3: %q", all(z))
	}
}

// TestNewMemory (DOC, 3): changes share memory with nothing, nor with each other.
func TestNewMemory(t *testing.T) {
	z, m := common(t), changing()
	want := given(m)
	_, l := update.Apply(z, 60, m)
	behind := all(z)
	var texts []string
	for _, c := range l {
		texts = append(texts, told(c.R))
	}
	if len(l) < 12 {
		t.Fatalf("%d changes", len(l))
	}
	for i, c := range l {
		if told(c.R) != texts[i] {
			t.Errorf("DOC, 3: change %d is %s, not %s", i, told(c.R), texts[i])
		}
		spoil(c.R)
	}
	if !slices.Equal(all(z), behind) || given(m) != want {
		t.Errorf("DOC, 3: %q", all(z))
	}
}

// TestSameAgain (DOC, 8): the same is told again, of a copy and beside others,
// and by a zone whose records were put in another order.
func TestSameAgain(t *testing.T) {
	z := common(t)
	other := zoned(t, "EXAMPLE")
	list := z.Records()
	slices.Reverse(list)
	for _, r := range list {
		other.Put(r)
	}
	code, l := update.Apply(z.Copy(), 60, changing())
	want := shown(l)
	var group sync.WaitGroup
	for range 8 {
		group.Go(func() {
			for range 20 {
				m := changing()
				if update.Prereq(z, m.Answers) != 0 || update.Scan(other, 60, m.Auth) != 0 {
					t.Error("DOC, 8: Prereq or Scan")
				}
				got, l := update.Apply(z.Copy(), 60, m)
				got2, l2 := update.Apply(other.Copy(), 60, m)
				if got != code || shown(l) != want || got2 != code || shown(l2) != want {
					t.Errorf("DOC, 8: %d, %s; %d, %s", got, shown(l), got2, shown(l2))
				}
			}
		})
	}
	group.Wait()
}
