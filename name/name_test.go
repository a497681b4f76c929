package name_test

import (
	"bytes"
	"slices"
	"strings"
	"testing"

	"signet/api"
	"signet/name"
)

// row: numbers that follow from a seed.
type row struct{ n uint64 }

func (r *row) next(n int) int {
	r.n = r.n*6364136223846793005 + 1442695040888963407
	return int(r.n >> 33 % uint64(n))
}

// name: one of few labels, of bytes among which like ones, capitals and the
// bytes that texts write in another way are common.
func (r *row) name() api.Name {
	const common = "aAbBzZ@[`{*-019.\\ \x00\x1f!~\x7f\x80\xc1\xe1\xff"
	var n api.Name
	for range r.next(4) {
		label := make([]byte, 1+r.next(4))
		for i := range label {
			label[i] = common[r.next(len(common))]
		}
		n = append(n, string(label))
	}
	return n
}

// label: one of size bytes.
func label(size int) string { return strings.Repeat("l", size) }

// sized: a name whose wire form has size bytes (not 2), of labels that are as
// long as they may be.
func sized(size int) api.Name {
	var n api.Name
	left := size - 1
	for left > 0 {
		take := min(left, 64)
		if left-take == 1 {
			take--
		}
		n = append(n, label(take-1))
		left -= take
	}
	return n
}

// wire: n's bytes, in the chapter's words.
func wire(n api.Name) []byte {
	var b bytes.Buffer
	for _, l := range n {
		b.WriteByte(byte(len(l) & 0xff))
		b.WriteString(l)
	}
	b.WriteByte(0)
	return b.Bytes()
}

// small: s with its capitals of ASCII small, all other bytes as they are.
func small(s string) string {
	b := []byte(s)
	for i, c := range b {
		if strings.IndexByte("ABCDEFGHIJKLMNOPQRSTUVWXYZ", c) >= 0 {
			b[i] = c ^ 0x20
		}
	}
	return string(b)
}

// turned: n's labels from the right, in small letters.
func turned(n api.Name) []string {
	var out []string
	for _, l := range slices.Backward(n) {
		out = append(out, small(l))
	}
	return out
}

// order: what Compare must answer.
func order(a, b api.Name) int { return slices.Compare(turned(a), turned(b)) }

// opened: b must begin with the name want, of size bytes.
func opened(t *testing.T, b []byte, want api.Name, size int) {
	t.Helper()
	n, got, e := name.Open(b)
	if e != api.OK || got != size || !slices.Equal(n, want) {
		t.Errorf("P3.1: Open(%q): %q, %d, %v, not %q, %d", b, n, got, e, want, size)
	}
}

// notOpened: b must be refused so, with nothing beside the error.
func notOpened(t *testing.T, b []byte, want api.Errno) {
	t.Helper()
	n, size, e := name.Open(b)
	if e != want || size != 0 || len(n) != 0 {
		t.Errorf("P3.1: Open(%q): %q, %d, %v, not %v", b, n, size, e, want)
	}
}

// TestErrNumbers (P3.1): the chapter's numbers of the errors.
func TestErrNumbers(t *testing.T) {
	if e := name.Check(api.Name{""}); int(e) != 30 {
		t.Errorf("P3.1: %d", int(e))
	}
	if e := name.Check(api.Name{label(64)}); int(e) != 31 {
		t.Errorf("P3.1: %d", int(e))
	}
}

// TestCheck (P3.1): lengths at the limits and one past them, and which error
// comes first.
func TestCheck(t *testing.T) {
	rows := []struct {
		n api.Name
		e api.Errno
	}{
		{nil, api.OK},
		{api.Name{}, api.OK},
		{api.Name{"a"}, api.OK},
		{api.Name{"a", "b"}, api.OK},
		{api.Name{".", "\\", "\x00", "\xff", "é"}, api.OK},
		{api.Name{""}, api.ErrName},
		{api.Name{"", "a"}, api.ErrName},
		{api.Name{"a", ""}, api.ErrName},
		{api.Name{"a", "", "b"}, api.ErrName},
		{api.Name{"", ""}, api.ErrName},
		{api.Name{label(62)}, api.OK},
		{api.Name{label(63)}, api.OK},
		{api.Name{label(64)}, api.ErrNameLong},
		{api.Name{"a", label(63)}, api.OK},
		{api.Name{"a", label(64)}, api.ErrNameLong},
		{api.Name{label(64), "a"}, api.ErrNameLong},
		{api.Name{label(254)}, api.ErrNameLong},
		{api.Name{label(256)}, api.ErrNameLong},
		{api.Name{label(257)}, api.ErrNameLong},
		{api.Name{label(256 + 63)}, api.ErrNameLong},
		{api.Name{label(1 << 16)}, api.ErrNameLong},
		{api.Name{label(63), label(63), label(63), label(61)}, api.OK},
		{api.Name{label(63), label(63), label(63), label(62)}, api.ErrNameLong},
		{api.Name{label(61), label(63), label(63), label(63)}, api.OK},
		{api.Name{label(62), label(63), label(63), label(63)}, api.ErrNameLong},
		{slices.Repeat(api.Name{"a"}, 127), api.OK},
		{slices.Repeat(api.Name{"a"}, 128), api.ErrNameLong},
		{append(slices.Repeat(api.Name{"a"}, 126), "aa"), api.ErrNameLong},
		{append(slices.Repeat(api.Name{"a"}, 125), "aa"), api.OK},
		{append(slices.Repeat(api.Name{"a"}, 125), "aaa"), api.OK},
		{append(slices.Repeat(api.Name{"a"}, 125), "aaaa"), api.ErrNameLong},
		{api.Name{label(64), ""}, api.ErrName},
		{api.Name{"", label(64)}, api.ErrName},
		{append(slices.Repeat(api.Name{"a"}, 200), ""), api.ErrName},
		{slices.Repeat(api.Name{""}, 254), api.ErrName},
		{slices.Repeat(api.Name{""}, 255), api.ErrName},
		{slices.Repeat(api.Name{""}, 1<<16), api.ErrName},
		{slices.Repeat(api.Name{"a"}, 1<<16), api.ErrNameLong},
	}
	for i, r := range rows {
		if e := name.Check(r.n); e != r.e {
			t.Errorf("P3.1: Check, row %d: %v, not %v", i, e, r.e)
		}
	}
}

// TestSizes (P3.1): names of every size about MaxName, there and back.
func TestSizes(t *testing.T) {
	for size := 1; size <= 600; size++ {
		if size == 2 {
			continue
		}
		n := sized(size)
		b := wire(n)
		if len(b) != size {
			t.Fatalf("the test's name of %d bytes has %d", size, len(b))
		}
		if !bytes.Equal(name.Wire(n), b) {
			t.Errorf("P3.1: Wire of %d bytes", size)
		}
		if size > 255 {
			if e := name.Check(n); e != api.ErrNameLong {
				t.Errorf("P3.1: Check of %d bytes: %v", size, e)
			}
			notOpened(t, b, api.ErrNameLong)
			notOpened(t, append(b, "more"...), api.ErrNameLong)
			continue
		}
		if e := name.Check(n); e != api.OK {
			t.Errorf("P3.1: Check of %d bytes: %v", size, e)
		}
		opened(t, b, n, size)
		opened(t, append(b, "more"...), n, size)
	}
}

// TestWire (P3.1): bytes, also of labels that Check refuses: of a length its
// lowest 8 bits are told.
func TestWire(t *testing.T) {
	rows := []struct {
		n api.Name
		b string
	}{
		{nil, "\x00"},
		{api.Name{}, "\x00"},
		{api.Name{"a"}, "\x01a\x00"},
		{api.Name{"Www", "eXample"}, "\x03Www\x07eXample\x00"},
		{api.Name{"."}, "\x01.\x00"},
		{api.Name{"a.b", "\\c"}, "\x03a.b\x02\\c\x00"},
		{api.Name{"é", "\xff\x00"}, "\x02é\x02\xff\x00\x00"},
		{api.Name{""}, "\x00\x00"},
		{api.Name{"a", "", "b"}, "\x01a\x00\x01b\x00"},
		{api.Name{label(63)}, "\x3f" + label(63) + "\x00"},
		{api.Name{label(64)}, "\x40" + label(64) + "\x00"},
		{api.Name{label(255)}, "\xff" + label(255) + "\x00"},
		{api.Name{label(256), "a"}, "\x00" + label(256) + "\x01a\x00"},
		{api.Name{label(257)}, "\x01" + label(257) + "\x00"},
		{api.Name{label(0x1234)}, "\x34" + label(0x1234) + "\x00"},
	}
	for _, r := range rows {
		if got := name.Wire(r.n); string(got) != r.b {
			t.Errorf("P3.1: Wire(%.40q): %.80q, not %.80q", r.n, got, r.b)
		}
	}
	if got := name.Wire(slices.Repeat(api.Name{"a"}, 300)); len(got) != 601 {
		t.Errorf("P3.1: Wire of 300 labels: %d bytes", len(got))
	}
}

// TestOpen (P3.1): names, and what stands behind them.
func TestOpen(t *testing.T) {
	rows := []struct {
		b    string
		n    api.Name
		size int
	}{
		{"\x00", nil, 1},
		{"\x00\x00", nil, 1},
		{"\x00\x01a\x00", nil, 1},
		{"\x00\xff", nil, 1},
		{"\x01a\x00", api.Name{"a"}, 3},
		{"\x01A\x00", api.Name{"A"}, 3},
		{"\x01a\x00\x01", api.Name{"a"}, 3},
		{"\x01a\x00\x40", api.Name{"a"}, 3},
		{"\x01a\x00\xc0\x00", api.Name{"a"}, 3},
		{"\x01\x00\x00", api.Name{"\x00"}, 3},
		{"\x02\x00\x00\x00", api.Name{"\x00\x00"}, 4},
		{"\x01\xc0\x00", api.Name{"\xc0"}, 3},
		{"\x01.\x03\\é\x00", api.Name{".", "\\é"}, 7},
		{"\x3f" + label(63) + "\x00", api.Name{label(63)}, 65},
	}
	for _, r := range rows {
		opened(t, []byte(r.b), r.n, r.size)
	}
	// Lengths count bytes, not runes: é's second byte stands as a length here.
	notOpened(t, []byte("\x01.\x02\\é\x00"), api.ErrName)
	long := append(name.Wire(sized(255)), make([]byte, 1<<16)...)
	opened(t, long, sized(255), 255)
}

// TestOpenCut (P3.1): each beginning of a name's bytes.
func TestOpenCut(t *testing.T) {
	notOpened(t, nil, api.ErrName)
	notOpened(t, []byte{}, api.ErrName)
	names := []api.Name{nil, {"a"}, {"\x00", "\x00\x00"}, {"Www", "example", "org"}, {label(63)}, sized(255)}
	for _, n := range names {
		b := wire(n)
		for i := range b {
			notOpened(t, b[:i], api.ErrName)
			// The bytes that lack stand in the spare room: they don't count.
			notOpened(t, slices.Clone(b)[:i], api.ErrName)
			notOpened(t, b[:i:i], api.ErrName)
		}
	}
}

// TestOpenLengths (P3.1): each length of a first and of a second label, with
// room enough behind it.
func TestOpenLengths(t *testing.T) {
	for length := range 256 {
		l := label(length)
		body := []byte(string([]byte{byte(length)}) + l + "\x00")
		second := append([]byte{1, 'a'}, body...)
		switch {
		case length == 0:
			opened(t, body, nil, 1)
			opened(t, second, api.Name{"a"}, 3)
		case length <= 63:
			opened(t, body, api.Name{l}, length+2)
			opened(t, second, api.Name{"a", l}, length+4)
		default:
			notOpened(t, body, api.ErrName)
			notOpened(t, second, api.ErrName)
			notOpened(t, body[:1], api.ErrName)
			notOpened(t, append(body[:1], make([]byte, 600)...), api.ErrName)
		}
	}
}

// TestOpenFirstError (P3.1): bytes that are too long and end ahead, or have a
// length above 63, wherever, are no name.
func TestOpenFirstError(t *testing.T) {
	for _, size := range []int{255, 256, 257, 300, 600, 70000} {
		b := wire(sized(size))
		for _, cut := range []int{1, 2, 10} {
			notOpened(t, b[:len(b)-cut], api.ErrName)
		}
		for _, length := range []byte{64, 127, 128, 191, 192, 255} {
			bad := append(slices.Clone(b[:len(b)-1]), length)
			notOpened(t, bad, api.ErrName)
			notOpened(t, append(bad, make([]byte, 300)...), api.ErrName)
		}
	}
	whole := append(bytes.Repeat([]byte{1, 'a'}, 127), 0)
	opened(t, whole, slices.Repeat(api.Name{"a"}, 127), 255)
	notOpened(t, append(bytes.Repeat([]byte{1, 'a'}, 128), 0), api.ErrNameLong)
	notOpened(t, bytes.Repeat([]byte{1, 'a'}, 128), api.ErrName)
	notOpened(t, bytes.Repeat([]byte{1, 'a'}, 1<<15), api.ErrName)
	notOpened(t, append(bytes.Repeat([]byte{1, 'a'}, 1<<15), 0), api.ErrNameLong)
}

// TestOpenEachByte (P3.1): each byte in a label, at each place of it.
func TestOpenEachByte(t *testing.T) {
	for c := range 256 {
		for at := range 3 {
			l := []byte("abc")
			l[at] = byte(c)
			n := api.Name{string(l), "org"}
			b := name.Wire(n)
			if !bytes.Equal(b, wire(n)) {
				t.Errorf("P3.1: Wire(%q): %q", n, b)
			}
			opened(t, b, n, len(b))
			if e := name.Check(n); e != api.OK {
				t.Errorf("P3.1: Check(%q): %v", n, e)
			}
		}
	}
}

// TestLower (P3.3): each byte at each place; letters of ASCII alone.
func TestLower(t *testing.T) {
	for c := range 256 {
		for at := range 3 {
			l := []byte("B-Y")
			l[at] = byte(c)
			got := name.Lower(api.Name{string(l), "Org", string(l)})
			want := api.Name{small(string(l)), "org", small(string(l))}
			if !slices.Equal(got, want) {
				t.Errorf("P3.3: Lower of %q: %q", l, got)
			}
		}
	}
	rows := []struct{ from, to api.Name }{
		{nil, nil},
		{api.Name{}, nil},
		{api.Name{"abc", "Z"}, api.Name{"abc", "z"}},
		{api.Name{"ÉÀ", "\u212a", "\u0130I", "\xc9"}, api.Name{"ÉÀ", "\u212a", "\u0130i", "\xc9"}},
		{api.Name{"", "A", ""}, api.Name{"", "a", ""}},
		{api.Name{strings.Repeat("Q", 300)}, api.Name{strings.Repeat("q", 300)}},
		{slices.Repeat(api.Name{"Q"}, 300), slices.Repeat(api.Name{"q"}, 300)},
	}
	for _, r := range rows {
		if got := name.Lower(r.from); !slices.Equal(got, r.to) {
			t.Errorf("P3.3: Lower(%.40q): %.40q", r.from, got)
		}
	}
}

// ordered: names in canonical order, each before the next one.
func ordered() []api.Name {
	return []api.Name{
		nil,
		{""},
		{"", ""},
		{"a", ""},
		{"\x00"},
		{"\x00\x00"},
		{"@"},
		{"["},
		{"`"},
		{"a"},
		{"\x00", "a"},
		{"z", "a"},
		{"a\x00"},
		{"aa"},
		{"ab"},
		{"b"},
		{"example"},
		{"a", "example"},
		{"yljkjljk", "a", "example"},
		{"z", "a", "example"},
		{"zabc", "a", "example"},
		{"z", "example"},
		{"\x01", "z", "example"},
		{"*", "z", "example"},
		{"\xc8", "z", "example"},
		{"examplf"},
		{"z"},
		{"{"},
		{"\x7f"},
		{"\x80"},
		{"é"},
		{"\xc9"},
		{"\xe9"},
		{"\xff"},
		{"\xff", "\xff"},
		{"\xff\x00"},
		{"\xff\xff"},
	}
}

// TestOrder (P3.3): each two of the list, with capitals in neither, one, both.
func TestOrder(t *testing.T) {
	names := ordered()
	for i, a := range names {
		for k, b := range names {
			want := 0
			if i < k {
				want = -1
			} else if i > k {
				want = 1
			}
			for _, x := range []api.Name{a, capitals(a)} {
				for _, y := range []api.Name{b, capitals(b)} {
					if got := name.Compare(x, y); got != want {
						t.Errorf("P3.3: Compare(%q, %q): %d, not %d", x, y, got, want)
					}
					if got := name.Same(x, y); got != (want == 0) {
						t.Errorf("P3.3: Same(%q, %q): %v", x, y, got)
					}
				}
			}
		}
	}
}

// capitals: n with its small letters of ASCII as capitals.
func capitals(n api.Name) api.Name {
	out := make(api.Name, len(n))
	for i, l := range n {
		b := []byte(l)
		for k, c := range b {
			if 'a' <= c && c <= 'z' {
				b[k] = c - 32
			}
		}
		out[i] = string(b)
	}
	return out
}

// TestOrderExamples (P3.3): the chapter's examples, and those of RFC 4034, 6.1.
func TestOrderExamples(t *testing.T) {
	texts := []string{"example.", "a.example.", "yljkjljk.a.example.", "Z.a.example.", "zABC.a.EXAMPLE.",
		"z.example.", "\\001.z.example.", "*.z.example.", "\\200.z.example."}
	for i := range len(texts) - 1 {
		low, _ := name.Parse(texts[i])
		high, _ := name.Parse(texts[i+1])
		if name.Compare(low, high) != -1 || name.Compare(high, low) != 1 {
			t.Errorf("P3.3: %s, %s", texts[i], texts[i+1])
		}
	}
}

// TestEachTwoBytes (P3.3): labels of each two bytes: the order is that of the
// bytes, capitals as small letters, and nothing else is the same.
func TestEachTwoBytes(t *testing.T) {
	for a := range 256 {
		for b := range 256 {
			x, y := api.Name{string([]byte{byte(a)}), "o"}, api.Name{string([]byte{byte(b)}), "O"}
			want := strings.Compare(small(x[0]), small(y[0]))
			if got := name.Compare(x, y); got != want {
				t.Fatalf("P3.3: Compare(%q, %q): %d, not %d", x, y, got, want)
			}
			if got := name.Same(x, y); got != (want == 0) {
				t.Fatalf("P3.3: Same(%q, %q): %v", x, y, got)
			}
			if got := name.Within(x, y); got != (want == 0) {
				t.Fatalf("P3.3: Within(%q, %q): %v", x, y, got)
			}
		}
	}
}

// TestCapitalsEachPlace (P3.3): a capital at each place of a name is no
// other name; another letter there is.
func TestCapitalsEachPlace(t *testing.T) {
	n := api.Name{"one", "two", "three"}
	for i, l := range n {
		for k := range len(l) {
			upper, other := slices.Clone(n), slices.Clone(n)
			upper[i] = l[:k] + strings.ToUpper(l[k:k+1]) + l[k+1:]
			other[i] = l[:k] + "q" + l[k+1:]
			if !name.Same(n, upper) || !name.Same(upper, n) || name.Compare(n, upper) != 0 || !slices.Equal(name.Lower(upper), n) {
				t.Errorf("P3.3: %q, %q", n, upper)
			}
			if name.Same(n, other) || name.Compare(n, other) == 0 || name.Within(other, n) {
				t.Errorf("P3.3: %q, %q", n, other)
			}
			if !name.Within(upper, n) || !name.Within(n, upper) || !name.Within(upper, n[1:]) || !name.Within(n, upper[2:]) {
				t.Errorf("P3.3: Within: %q, %q", n, upper)
			}
		}
	}
}

// TestSameLabels (P3.3): names whose bytes are alike when they're joined.
func TestSameLabels(t *testing.T) {
	names := []api.Name{{"ab"}, {"a", "b"}, {"a.b"}, {"", "ab"}, {"ab", ""}, {"a", "", "b"}, {"a\x01b"}, {"b", "a"}}
	for i, a := range names {
		for k, b := range names {
			if name.Same(a, b) != (i == k) || (name.Compare(a, b) == 0) != (i == k) {
				t.Errorf("P3.3: %q, %q", a, b)
			}
		}
	}
	if !name.Same(nil, api.Name{}) || name.Compare(nil, api.Name{}) != 0 || name.Compare(api.Name{}, nil) != 0 {
		t.Error("P3.3: nil and empty")
	}
}

// TestWithin (P3.3): ends of a name by labels, not by bytes.
func TestWithin(t *testing.T) {
	rows := []struct {
		n, apex api.Name
		want    bool
	}{
		{nil, nil, true},
		{nil, api.Name{}, true},
		{api.Name{}, nil, true},
		{api.Name{"a"}, nil, true},
		{nil, api.Name{"a"}, false},
		{api.Name{"a"}, api.Name{"a"}, true},
		{api.Name{"A"}, api.Name{"a"}, true},
		{api.Name{"a"}, api.Name{"A"}, true},
		{api.Name{"x", "a"}, api.Name{"a"}, true},
		{api.Name{"x", "y", "a"}, api.Name{"Y", "A"}, true},
		{api.Name{"x", "y", "a"}, api.Name{"x", "y"}, false},
		{api.Name{"x", "y", "a"}, api.Name{"x"}, false},
		{api.Name{"x", "y", "a"}, api.Name{"y"}, false},
		{api.Name{"x", "y", "a"}, api.Name{"x", "a"}, false},
		{api.Name{"a"}, api.Name{"x", "a"}, false},
		{api.Name{"xa"}, api.Name{"a"}, false},
		{api.Name{"x.a"}, api.Name{"a"}, false},
		{api.Name{"a"}, api.Name{"xa"}, false},
		{api.Name{"a", ""}, api.Name{""}, true},
		{api.Name{"a"}, api.Name{""}, false},
		{api.Name{""}, nil, true},
		{api.Name{"x", "\xe9"}, api.Name{"\xc9"}, false},
	}
	for _, r := range rows {
		if got := name.Within(r.n, r.apex); got != r.want {
			t.Errorf("P3.3: Within(%q, %q): %v", r.n, r.apex, got)
		}
	}
	n := sized(255)
	for i := range len(n) + 1 {
		if !name.Within(n, n[i:]) || i > 0 && name.Within(n[i:], n) {
			t.Errorf("P3.3: Within, %d labels off", i)
		}
	}
}

// TestWild (P3.3): the first label alone, and * alone in it.
func TestWild(t *testing.T) {
	rows := []struct {
		n    api.Name
		want bool
	}{
		{nil, false},
		{api.Name{}, false},
		{api.Name{"*"}, true},
		{api.Name{"*", "a"}, true},
		{api.Name{"*", "*"}, true},
		{api.Name{"*", ""}, true},
		{api.Name{"a", "*"}, false},
		{api.Name{"", "*"}, false},
		{api.Name{"**"}, false},
		{api.Name{"*a", "b"}, false},
		{api.Name{"a*"}, false},
		{api.Name{"\\*"}, false},
		{api.Name{"*."}, false},
		{api.Name{"*\x00"}, false},
		{api.Name{"j"}, false}, // * with the bit that capitals lack
		{api.Name{"\n"}, false},
		{api.Name{"＊"}, false},
	}
	for _, r := range rows {
		if got := name.Wild(r.n); got != r.want {
			t.Errorf("P3.3: Wild(%q): %v", r.n, got)
		}
	}
	n, e := name.Parse("\\*.a")
	if e != api.OK || !name.Wild(n) {
		t.Errorf("P3.3: %q, %v", n, e)
	}
}

// TestTotal (P3.4): of names that follow from a seed: the order is the
// chapter's, turns round, is 0 for the same names alone, and goes on from one
// to a third.
func TestTotal(t *testing.T) {
	r := &row{34}
	for range 20000 {
		a, b, c := r.name(), r.name(), r.name()
		ab := name.Compare(a, b)
		if ab != order(a, b) || ab != -name.Compare(b, a) {
			t.Fatalf("P3.4: %q, %q: %d", a, b, ab)
		}
		if (ab == 0) != name.Same(a, b) || name.Same(a, b) != slices.Equal(turned(a), turned(b)) {
			t.Fatalf("P3.4: Same: %q, %q", a, b)
		}
		if ab <= 0 && name.Compare(b, c) <= 0 && name.Compare(a, c) > 0 {
			t.Fatalf("P3.4: %q, %q, %q", a, b, c)
		}
		if name.Compare(a, a) != 0 || name.Compare(a, name.Lower(a)) != 0 {
			t.Fatalf("P3.4: %q and itself", a)
		}
		if below := append(slices.Clone(b), a...); len(b) > 0 && (name.Compare(a, below) != -1 || !name.Within(below, a)) {
			t.Fatalf("P3.4: %q isn't ahead of %q", a, below)
		}
	}
}

// TestOneForm (P3.4): names that are the same have one text and one wire form
// but for capitals, and others have others.
func TestOneForm(t *testing.T) {
	r := &row{35}
	texts, wires := map[string]api.Name{}, map[string]api.Name{}
	for range 20000 {
		n := r.name()
		low := name.Lower(n)
		text, b := name.Text(low), string(name.Wire(low))
		if other, ok := texts[text]; ok && !name.Same(n, other) {
			t.Fatalf("P3.4: %q and %q have one text", n, other)
		}
		if other, ok := wires[b]; ok && !name.Same(n, other) {
			t.Fatalf("P3.4: %q and %q have one wire form", n, other)
		}
		texts[text], wires[b] = n, n
		if small(name.Text(n)) != text || small(string(name.Wire(n))) != b {
			t.Fatalf("P3.4: %q: another form than %q", n, low)
		}
	}
	if len(texts) != len(wires) {
		t.Errorf("P3.4: %d texts, %d wire forms", len(texts), len(wires))
	}
}

// TestLeavesArguments (P3.1, P3.2, P3.3): lists that are handed in, and the
// room behind them, stay as they were, and that room doesn't count.
func TestLeavesArguments(t *testing.T) {
	room := api.Name{"Ab", "C.d", "\xffE", "F", "g"}
	was := slices.Clone(room)
	n := room[:3]
	name.Check(n)
	name.Same(n, room[1:2])
	name.Compare(n, room[1:2])
	name.Within(n, room[1:3])
	name.Wild(n)
	if got := name.Text(n); got != "Ab.C\\.d.\\255E." {
		t.Errorf("P3.2: %s", got)
	}
	if got := name.Wire(n); string(got) != "\x02Ab\x03C.d\x02\xffE\x00" {
		t.Errorf("P3.1: %q", got)
	}
	if got := name.Lower(n); !slices.Equal(got, api.Name{"ab", "c.d", "\xffe"}) {
		t.Errorf("P3.3: %q", got)
	}
	if !slices.Equal(room, was) {
		t.Errorf("P3.3: what was handed in is %q now", room)
	}
	b := []byte("\x02Ab\x01C\x00more")
	keep := slices.Clone(b)
	opened(t, b[:6], api.Name{"Ab", "C"}, 6)
	if !bytes.Equal(b, keep) {
		t.Errorf("P3.1: what was handed in is %q now", b)
	}
}

// TestNewMemory (P3.1, P3.2, P3.3): answers don't follow what was handed in,
// nor one another.
func TestNewMemory(t *testing.T) {
	b := []byte("\x02Ab\x01C\x00")
	first, _, _ := name.Open(b)
	second, _, _ := name.Open(b)
	clear(b)
	clear(first[:cap(first)])
	if !slices.Equal(second, api.Name{"Ab", "C"}) {
		t.Errorf("P3.1: Open's answer is %q now", second)
	}
	n := api.Name{"ab", "c"}
	low, bytes1, bytes2 := name.Lower(n), name.Wire(n), name.Wire(n)
	n[0] = "x"
	clear(bytes1[:cap(bytes1)])
	if !slices.Equal(low, api.Name{"ab", "c"}) || string(bytes2) != "\x02ab\x01c\x00" {
		t.Errorf("P3.3: answers are %q, %q now", low, bytes2)
	}
	low[0] = "y"
	if n[0] != "x" {
		t.Error("P3.3: what was handed in follows Lower's answer")
	}
	p, _ := name.Parse("ab.c")
	q, _ := name.Parse("ab.c")
	clear(p[:cap(p)])
	if !slices.Equal(q, api.Name{"ab", "c"}) {
		t.Errorf("P3.2: Parse's answer is %q now", q)
	}
}

// FuzzOpen (P3.1): what opens is the wire form of what it opens to.
func FuzzOpen(f *testing.F) {
	for _, s := range []string{"", "\x00", "\x01a\x00", "\x01a", "\x40", "\xc0\x0c", "\x03A.\\\x01\xff\x00more", strings.Repeat("\x01a", 128) + "\x00"} {
		f.Add([]byte(s))
	}
	f.Fuzz(func(t *testing.T, b []byte) {
		n, size, e := name.Open(b)
		switch e {
		case api.OK:
			if size < 1 || size > 255 || size > len(b) || !bytes.Equal(name.Wire(n), b[:size]) || name.Check(n) != api.OK {
				t.Errorf("P3.1: Open(%q): %q, %d", b, n, size)
			}
		case api.ErrName, api.ErrNameLong:
			if size != 0 || len(n) != 0 {
				t.Errorf("P3.1: Open(%q): %q, %d beside %v", b, n, size, e)
			}
			if e == api.ErrNameLong && len(b) < 256 {
				t.Errorf("P3.1: Open(%q): %v", b, e)
			}
		default:
			t.Errorf("P3.1: Open(%q): %v", b, e)
		}
	})
}
