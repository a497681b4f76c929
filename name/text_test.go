package name_test

import (
	"fmt"
	"slices"
	"strings"
	"testing"

	"signet/api"
	"signet/name"
)

// text: n's text, in the chapter's words.
func text(n api.Name) string {
	if len(n) == 0 {
		return "."
	}
	out := ""
	for _, l := range n {
		for _, c := range []byte(l) {
			switch {
			case c == '.' || c == '\\':
				out += "\\" + string(rune(c))
			case c < 33 || c > 126:
				out += fmt.Sprintf("\\%03d", c)
			default:
				out += string(rune(c))
			}
		}
		out += "."
	}
	return out
}

// parsed: s must be a text of want.
func parsed(t *testing.T, s string, want api.Name) {
	t.Helper()
	n, e := name.Parse(s)
	if e != api.OK || !slices.Equal(n, want) {
		t.Errorf("P3.2: Parse(%.80q): %.80q, %v, not %.80q", s, n, e, want)
	}
}

// notParsed: s must be refused so, with nothing beside the error.
func notParsed(t *testing.T, s string, want api.Errno) {
	t.Helper()
	n, e := name.Parse(s)
	if e != want || len(n) != 0 {
		t.Errorf("P3.2: Parse(%.80q): %.80q, %v, not %v", s, n, e, want)
	}
}

// TestText (P3.2): names, also ones that Check refuses.
func TestText(t *testing.T) {
	rows := []struct {
		n api.Name
		s string
	}{
		{nil, "."},
		{api.Name{}, "."},
		{api.Name{"a"}, "a."},
		{api.Name{"A", "b"}, "A.b."},
		{api.Name{"."}, "\\.."},
		{api.Name{"\\"}, "\\\\."},
		{api.Name{"a.b", "c"}, "a\\.b.c."},
		{api.Name{"\\."}, "\\\\\\.."},
		{api.Name{"\x00\x09\x0a\x1f ", "!"}, "\\000\\009\\010\\031\\032.!."},
		{api.Name{"~\x7f\x80\xff"}, "~\\127\\128\\255."},
		{api.Name{"é"}, "\\195\\169."},
		{api.Name{"*", "*a"}, "*.*a."},
		{api.Name{"\"();@$'"}, "\"();@$'."},
		{api.Name{"123"}, "123."},
		{api.Name{"\x001"}, "\\0001."},
		{api.Name{""}, "."},
		{api.Name{"a", "", "b"}, "a..b."},
		{api.Name{label(300)}, label(300) + "."},
		{slices.Repeat(api.Name{"a"}, 300), strings.Repeat("a.", 300)},
	}
	for _, r := range rows {
		if got := name.Text(r.n); got != r.s {
			t.Errorf("P3.2: Text(%.40q): %.80q, not %.80q", r.n, got, r.s)
		}
	}
}

// TestTextEachByte (P3.2): each byte, at each place of a label, there and back.
func TestTextEachByte(t *testing.T) {
	for c := range 256 {
		for at := range 3 {
			l := []byte("a1z")
			l[at] = byte(c)
			n := api.Name{string(l), "org", string(l)}
			s := name.Text(n)
			if s != text(n) {
				t.Errorf("P3.2: Text(%q): %s", n, s)
			}
			parsed(t, s, n)
			parsed(t, s[:len(s)-1], n)
		}
	}
}

// TestParse (P3.2): texts that Text doesn't write, too.
func TestParse(t *testing.T) {
	rows := []struct {
		s string
		n api.Name
	}{
		{".", nil},
		{"a", api.Name{"a"}},
		{"a.", api.Name{"a"}},
		{"a.b", api.Name{"a", "b"}},
		{"Www.eXample.", api.Name{"Www", "eXample"}},
		{"\\.", api.Name{"."}},
		{"\\..", api.Name{"."}},
		{"\\.\\.", api.Name{".."}},
		{"a\\.b.c", api.Name{"a.b", "c"}},
		{"a.\\.b", api.Name{"a", ".b"}},
		{"a\\..b", api.Name{"a.", "b"}},
		{"\\\\", api.Name{"\\"}},
		{"\\\\.", api.Name{"\\"}},
		{"\\\\.a", api.Name{"\\", "a"}},
		{"\\\\\\.a", api.Name{"\\.a"}},
		{"\\\\065", api.Name{"\\065"}},
		{"\\046", api.Name{"."}},
		{"\\046.\\046", api.Name{".", "."}},
		{"\\092065", api.Name{"\\065"}},
		{"\\092\\046", api.Name{"\\."}},
		{"\\000", api.Name{"\x00"}},
		{"\\255", api.Name{"\xff"}},
		{"\\249\\199\\250", api.Name{"\xf9\xc7\xfa"}},
		{"\\0000", api.Name{"\x000"}},
		{"\\2555", api.Name{"\xff5"}},
		{"\\065066", api.Name{"A066"}},
		{"\\065\\066.c", api.Name{"AB", "c"}},
		{"\\097", api.Name{"a"}},
		{"\\a\\b\\-\\*", api.Name{"ab-*"}},
		{"\\A", api.Name{"A"}},
		{"\\ ", api.Name{" "}},
		{" ", api.Name{" "}},
		{"a b\t.\n", api.Name{"a b\t", "\n"}},
		{"\x00", api.Name{"\x00"}},
		{"\\\x00", api.Name{"\x00"}},
		{"\x7f", api.Name{"\x7f"}},
		{"*.a", api.Name{"*", "a"}},
		{"@", api.Name{"@"}},
		{"123.4", api.Name{"123", "4"}},
	}
	for _, r := range rows {
		parsed(t, r.s, r.n)
	}
}

// TestParseRunes (P3.2): runes of more than one byte are their bytes, bare,
// behind a \ and by numbers; digits of other writings are no digits.
func TestParseRunes(t *testing.T) {
	runes := []rune{0x80, 0xe9, 0xc9, 0x130, 0x212a, 0x660, 0x0966, 0x3002, 0xff0e, 0xff11, 0xff3c, 0xfffd, 0x10000, 0x1d7ce, 0x10ffff}
	for _, low := range "019.\\" {
		// Runes whose lowest byte, or lowest 16 bits, are those of a digit, dot, \.
		runes = append(runes, low+0x100, low+0x2000, low+0x10000)
	}
	for _, r := range runes {
		c := string(r)
		parsed(t, c, api.Name{c})
		parsed(t, c+".", api.Name{c})
		parsed(t, "\\"+c, api.Name{c})
		parsed(t, "a"+c+"b."+c, api.Name{"a" + c + "b", c})
		parsed(t, "\\"+c+"12.\\\\"+c, api.Name{c + "12", "\\" + c})
		parsed(t, "\\065"+c, api.Name{"A" + c})
		parsed(t, text(api.Name{c}), api.Name{c})
		notParsed(t, "\\1"+c, api.ErrName)
		notParsed(t, "\\12"+c, api.ErrName)
		notParsed(t, "\\1"+c+"2", api.ErrName)
		notParsed(t, c+"\\", api.ErrName)
		notParsed(t, c+"..", api.ErrName)
	}
}

// TestParseNoRunes (P3.2): bytes that are no rune are themselves.
func TestParseNoRunes(t *testing.T) {
	rows := []string{"\xff", "\x80", "\xc3", "\xc0\xae", "\xe0\x80\xae", "\xed\xa0\x80", "\xf4\x90\x80\x80", "\xef\xbf", "\xef", "\xff\xff", "\xc3a"}
	for _, c := range rows {
		parsed(t, c, api.Name{c})
		parsed(t, "\\"+c, api.Name{c})
		parsed(t, "a"+c+"."+c+".b", api.Name{"a" + c, c, "b"})
		parsed(t, c+"\\065", api.Name{c + "A"})
		parsed(t, c+"\\.", api.Name{c + "."})
		notParsed(t, "\\1"+c, api.ErrName)
		notParsed(t, "\\12"+c, api.ErrName)
		notParsed(t, c+"\\", api.ErrName)
	}
	for c := range 256 {
		one := string([]byte{byte(c)})
		switch {
		case c == '.':
			parsed(t, one, nil)
			parsed(t, "a"+one, api.Name{"a"})
			parsed(t, "\\"+one, api.Name{one})
		case c == '\\':
			notParsed(t, one, api.ErrName)
			parsed(t, "\\"+one, api.Name{one})
		case '0' <= c && c <= '9':
			parsed(t, one, api.Name{one})
			notParsed(t, "\\"+one, api.ErrName)
		default:
			parsed(t, one, api.Name{one})
			parsed(t, "a"+one, api.Name{"a" + one})
			parsed(t, "\\"+one, api.Name{one})
			notParsed(t, "\\0"+one+"00", api.ErrName)
			notParsed(t, "\\00"+one+"0", api.ErrName)
		}
	}
}

// TestParseNumbers (P3.2): each number behind a \, of one, two and three
// digits, alone, ahead of a dot, a letter, a \.
func TestParseNumbers(t *testing.T) {
	for number := range 1000 {
		s := fmt.Sprintf("\\%03d", number)
		if number > 255 {
			for _, tail := range []string{"", ".", "a", "0", "\\", "\\065"} {
				notParsed(t, s+tail, api.ErrName)
				notParsed(t, "a."+s+tail, api.ErrName)
			}
			continue
		}
		c := string([]byte{byte(number)})
		parsed(t, s, api.Name{c})
		parsed(t, s+".", api.Name{c})
		parsed(t, "x"+s+"0.y"+s, api.Name{"x" + c + "0", "y" + c})
		parsed(t, s+s+s, api.Name{c + c + c})
	}
	for number := range 100 {
		for _, form := range []string{"\\%d", "\\%02d"} {
			s := fmt.Sprintf(form, number)
			for _, tail := range []string{"", ".", "a", ".5", "\\5", "\\065", " 1", "+1", "-1", "/", ":"} {
				notParsed(t, s+tail, api.ErrName)
				notParsed(t, "a"+s+tail, api.ErrName)
			}
		}
	}
}

// TestNoText (P3.2): texts of no name.
func TestNoText(t *testing.T) {
	rows := []string{"", "..", "...", ".a", ".a.", "a..", "a..b", "a.b..", "..a", ".\\.", "\\...", "a.\\...b",
		"\\", "a\\", "a.\\", "a.\\.\\", "\\\\\\", ".\\", "\\065\\", "\\1", "\\12", "\\1a2", "\\12a", "\\1.", "\\12.", "\\12.3", "\\256", "\\300", "\\999", "\\260", "\\2\\55"}
	for _, s := range rows {
		notParsed(t, s, api.ErrName)
	}
}

// TestParseLimits (P3.2): labels and names at their greatest length and one
// past it: bytes count, however many digits the text takes for them.
func TestParseLimits(t *testing.T) {
	for _, c := range []struct{ text, is string }{{"l", "l"}, {"\\000", "\x00"}, {"\\.", "."}, {"\\\\", "\\"}, {"\\108", "l"}} {
		at63, at64 := strings.Repeat(c.text, 63), strings.Repeat(c.text, 64)
		parsed(t, at63, api.Name{strings.Repeat(c.is, 63)})
		parsed(t, "a."+at63+".", api.Name{"a", strings.Repeat(c.is, 63)})
		notParsed(t, at64, api.ErrNameLong)
		notParsed(t, "a."+at64+".", api.ErrNameLong)
		notParsed(t, at64+".a", api.ErrNameLong)
		three := strings.Repeat(at63+".", 3)
		l := strings.Repeat(c.is, 63)
		parsed(t, three+strings.Repeat(c.text, 61), api.Name{l, l, l, l[:61]})
		parsed(t, three+strings.Repeat(c.text, 61)+".", api.Name{l, l, l, l[:61]})
		notParsed(t, three+strings.Repeat(c.text, 62), api.ErrNameLong)
		notParsed(t, three+strings.Repeat(c.text, 62)+".", api.ErrNameLong)
	}
	parsed(t, strings.Repeat("é", 31)+"x", api.Name{strings.Repeat("é", 31) + "x"})
	notParsed(t, strings.Repeat("é", 32), api.ErrNameLong)
	parsed(t, strings.Repeat("a.", 127), slices.Repeat(api.Name{"a"}, 127))
	notParsed(t, strings.Repeat("a.", 128), api.ErrNameLong)
	notParsed(t, strings.Repeat("a", 1<<20), api.ErrNameLong)
	notParsed(t, strings.Repeat("a.", 1<<20), api.ErrNameLong)
	for size := 3; size <= 300; size++ {
		want := api.OK
		if size > 255 {
			want = api.ErrNameLong
		}
		if _, e := name.Parse(text(sized(size))); e != want {
			t.Errorf("P3.2: a name of %d bytes: %v", size, e)
		}
	}
}

// TestParseFirstError (P3.2): what can't be read is ErrName, also where it is
// too long, ahead of the fault or behind it.
func TestParseFirstError(t *testing.T) {
	longs := []string{label(64), label(300), strings.Repeat("a.", 200) + "a", strings.Repeat("\\000", 70)}
	for _, long := range longs {
		notParsed(t, long, api.ErrNameLong)
		notParsed(t, long+".", api.ErrNameLong)
		for _, fault := range []string{"\\", "\\1", "\\12", "\\1a2", "\\256", "..", "..a", ".\\9"} {
			notParsed(t, long+fault, api.ErrName)
		}
		for _, fault := range []string{".", "a..", "\\1.", "\\256", "\\12x"} {
			notParsed(t, fault+long, api.ErrName)
		}
	}
}

// TestBack (P3.2, P3.4): each name's text is read as that name, and no other
// text is written for it.
func TestBack(t *testing.T) {
	r := &row{32}
	for range 20000 {
		n := r.name()
		s := name.Text(n)
		if s != text(n) {
			t.Fatalf("P3.2: Text(%q): %s, not %s", n, s, text(n))
		}
		parsed(t, s, n)
		if len(n) > 0 {
			parsed(t, strings.TrimSuffix(s, "."), n)
			notParsed(t, s+".", api.ErrName)
			notParsed(t, "."+s, api.ErrName)
			notParsed(t, s+"\\", api.ErrName)
		}
	}
}

// FuzzParse (P3.2): what is read is a name whose text is read so again; what
// isn't has nothing beside the error.
func FuzzParse(f *testing.F) {
	for _, s := range []string{"", ".", "a.b", "\\065\\.é\xff", "a..", "\\12", "\\256", strings.Repeat("a.", 128), "\\"} {
		f.Add(s)
	}
	f.Fuzz(func(t *testing.T, s string) {
		n, e := name.Parse(s)
		switch e {
		case api.OK:
			if name.Check(n) != api.OK || name.Text(n) != text(n) {
				t.Errorf("P3.2: Parse(%q): %q", s, n)
			}
			parsed(t, name.Text(n), n)
		case api.ErrName, api.ErrNameLong:
			if len(n) != 0 || e == api.ErrNameLong && len(s) < 64 {
				t.Errorf("P3.2: Parse(%q): %q, %v", s, n, e)
			}
		default:
			t.Errorf("P3.2: Parse(%q): %v", s, e)
		}
	})
}
