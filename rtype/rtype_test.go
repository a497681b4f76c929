package rtype_test

import (
	"strconv"
	"strings"
	"testing"

	"signet/rtype"
)

// known: the chapter's texts, by the types' numbers.
func known() map[uint16]string {
	return map[uint16]string{
		1: "A", 2: "NS", 5: "CNAME", 6: "SOA", 15: "MX", 16: "TXT", 28: "AAAA",
		41: "OPT", 43: "DS", 46: "RRSIG", 48: "DNSKEY", 50: "NSEC3",
		51: "NSEC3PARAM", 255: "ANY",
	}
}

// rightTexts: all texts that there are, and their types.
func rightTexts() map[string]uint16 {
	out := map[string]uint16{}
	for i := range 1 << 16 {
		out["TYPE"+strconv.Itoa(i)] = uint16(i)
	}
	for kind, text := range known() {
		out[text] = kind
	}
	return out
}

// notParsed: s must be no type's text, with no type beside that.
func notParsed(t *testing.T, s string) {
	t.Helper()
	if got, ok := rtype.Parse(s); ok || got != 0 {
		t.Errorf("P4.1: Parse(%.40q): %d, %v", s, got, ok)
	}
}

// parsed: s must be the text of kind.
func parsed(t *testing.T, s string, kind uint16) {
	t.Helper()
	if got, ok := rtype.Parse(s); !ok || got != kind {
		t.Errorf("P4.1: Parse(%q): %d, %v, not %d", s, got, ok, kind)
	}
}

// judged: s must be read as texts says.
func judged(t *testing.T, texts map[string]uint16, s string) {
	t.Helper()
	if kind, ok := texts[s]; ok {
		parsed(t, s, kind)
	} else {
		notParsed(t, s)
	}
}

// TestKnown (P4.1): each text of the chapter, there and back, and the number
// of each.
func TestKnown(t *testing.T) {
	for kind, text := range known() {
		if got := rtype.Text(kind); got != text {
			t.Errorf("P4.1: Text(%d): %s, not %s", kind, got, text)
		}
		parsed(t, text, kind)
		parsed(t, "TYPE"+strconv.Itoa(int(kind)), kind)
	}
}

// TestEachType (P4.1): each type's text, there and back.
func TestEachType(t *testing.T) {
	for i := range 1 << 16 {
		kind := uint16(i)
		want, ok := known()[kind]
		if !ok {
			want = "TYPE" + strconv.Itoa(i)
		}
		if got := rtype.Text(kind); got != want {
			t.Fatalf("P4.1: Text(%d): %s, not %s", i, got, want)
		}
		parsed(t, want, kind)
	}
}

// TestEachText (P4.1): each text that there is, TYPE and the number of known
// types among them.
func TestEachText(t *testing.T) {
	for text, kind := range rightTexts() {
		parsed(t, text, kind)
	}
}

// TestEdges (P4.1): the first and last numbers, and those about known ones.
func TestEdges(t *testing.T) {
	rows := []struct {
		kind uint16
		text string
	}{
		{0, "TYPE0"}, {3, "TYPE3"}, {10, "TYPE10"}, {14, "TYPE14"}, {17, "TYPE17"},
		{47, "TYPE47"}, {49, "TYPE49"}, {52, "TYPE52"}, {100, "TYPE100"},
		{254, "TYPE254"}, {256, "TYPE256"}, {257, "TYPE257"}, {32767, "TYPE32767"},
		{32768, "TYPE32768"}, {65534, "TYPE65534"}, {65535, "TYPE65535"},
	}
	for _, r := range rows {
		if got := rtype.Text(r.kind); got != r.text {
			t.Errorf("P4.1: Text(%d): %s", r.kind, got)
		}
		parsed(t, r.text, r.kind)
	}
}

// TestNoText (P4.1): texts of no type.
func TestNoText(t *testing.T) {
	rows := []string{
		"", " ", "\x00", "\xff", "0", "1", "255", "65535", "-", "*", ".",
		"TYPE", "TYPE ", "T", "TYP", "TYP1", "TTYPE1", "TYPETYPE1", "TYPEA", "TYPEANY", "TYPENS",
		"type1", "Type1", "tYPE1", "TYPe1", "type", "type65535", "a", "ns", "Ns", "nS", "cname", "Any", "any", "nsec3param", "NSEC3param", "NSEC3Param", "aaaa", "AAAa",
		"AA", "AAA", "AAAAA", "N", "S", "NSEC", "NSEC33", "NSEC3PARAMS", "DNSKE", "DNSKEYS", "RRSI", "CNAM", "PTR", "SRV", "HINFO", "CDS", "CDNSKEY", "AXFR", "ALL", "NONE", "IN",
		"A ", " A", "A\n", "A\x00", "\x00A", "A.", "A,NS", "A NS", "ANS",
		" TYPE1", "TYPE1 ", "TYPE 1", "TYPE1\n", "TYPE\n1", "TYPE1\x00", "TYPE\x001", "TYPE\t1", "TYPE1 1",
		"TYPE+0", "TYPE+1", "TYPE+65535", "TYPE-0", "TYPE-1", "TYPE-65535", "TYPE--1", "TYPE+-1", "TYPE1-", "TYPE1+",
		"TYPE0x1", "TYPE0X1", "TYPE0b1", "TYPE0o1", "TYPEx1", "TYPEff", "TYPEFF", "TYPE1_0", "TYPE_1", "TYPE1_", "TYPE1e1", "TYPE1e0", "TYPE1.0", "TYPE1.", "TYPE.1", "TYPE1,0", "TYPE1a", "TYPEa1", "TYPE/", "TYPE:", "TYPE1/", "TYPE1:",
		"TYPE\u0661", "TYPE\uff11", "TYPE1\u0660", "TYPE\u0966", "TYPE\u00b9", "TYPE\xff", "TYPE1\xff", "TYPE\xff1", "\uff21", "\u0410", "ТYPE1",
	}
	texts := rightTexts()
	for _, s := range rows {
		if _, ok := texts[s]; ok {
			t.Fatalf("the test's row %q is a text", s)
		}
		notParsed(t, s)
	}
}

// TestNoughtsAhead (P4.1): a number with noughts ahead is none, nought too.
func TestNoughtsAhead(t *testing.T) {
	for _, number := range []string{"0", "1", "2", "9", "10", "47", "48", "255", "256", "1000", "9999", "10000", "65535", "65536"} {
		for noughts := 1; noughts <= 70; noughts++ {
			notParsed(t, "TYPE"+strings.Repeat("0", noughts)+number)
		}
	}
}

// TestNumbersAbove (P4.1): numbers past 65535, also such whose lowest bits
// are a type's.
func TestNumbersAbove(t *testing.T) {
	for i := 1 << 16; i < 1<<20; i++ {
		notParsed(t, "TYPE"+strconv.Itoa(i))
	}
	for shift := 16; shift < 64; shift++ {
		for _, low := range []uint64{0, 1, 48, 255, 65535} {
			notParsed(t, "TYPE"+strconv.FormatUint(1<<shift+low, 10))
		}
	}
	for _, number := range []string{
		"9223372036854775807", "9223372036854775808", "18446744073709551615",
		"18446744073709551616", "18446744073709551617", "18446744073709551664",
		"340282366920938463463374607431768211457",
	} {
		notParsed(t, "TYPE"+number)
	}
}

// TestTooManyDigits (P4.1): however many there are.
func TestTooManyDigits(t *testing.T) {
	for _, digit := range []string{"0", "1", "6", "9"} {
		for _, count := range []int{6, 7, 10, 11, 19, 20, 21, 64, 1000, 1 << 20} {
			notParsed(t, "TYPE"+strings.Repeat(digit, count))
		}
		notParsed(t, "TYPE"+strings.Repeat(digit, 1<<20)+"x")
	}
	notParsed(t, strings.Repeat("A", 1<<20))
}

// TestChanged (P4.1): right texts with one byte changed, put in or left out.
func TestChanged(t *testing.T) {
	texts := rightTexts()
	rows := []string{"TYPE0", "TYPE1", "TYPE48", "TYPE6553", "TYPE65535", "TYPE10000"}
	for _, text := range known() {
		rows = append(rows, text)
	}
	for _, s := range rows {
		for at := range len(s) {
			judged(t, texts, s[:at]+s[at+1:])
			judged(t, texts, s[:at])
			judged(t, texts, s[at:])
		}
		for at := range len(s) + 1 {
			for c := range 256 {
				one := string([]byte{byte(c)})
				judged(t, texts, s[:at]+one+s[at:])
				if at < len(s) {
					judged(t, texts, s[:at]+one+s[at+1:])
				}
			}
		}
	}
}

// FuzzParse (P4.1): a text is read, if it is one of those that there are.
func FuzzParse(f *testing.F) {
	for _, s := range []string{"", "A", "TYPE", "TYPE0", "TYPE01", "TYPE1", "TYPE65535", "TYPE65536", "TYPE-1", "type1", "NSEC3PARAM"} {
		f.Add(s)
	}
	texts := rightTexts()
	f.Fuzz(func(t *testing.T, s string) { judged(t, texts, s) })
}
