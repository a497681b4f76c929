package name

import (
	"strings"
	"unicode/utf8"

	"signet/api"
)

// Text: n as a text.
func Text(n api.Name) string {
	if len(n) == 0 {
		return "."
	}
	var out strings.Builder
	for _, label := range n {
		for i := range len(label) {
			writeByte(&out, label[i])
		}
		out.WriteByte('.')
	}
	return out.String()
}

// writeByte writes a label's byte, so that it is read as that byte again.
func writeByte(out *strings.Builder, c byte) {
	switch {
	case c == '.' || c == '\\':
		out.WriteByte('\\')
		out.WriteByte(c)
	case c < 33 || c > 126:
		out.WriteByte('\\')
		out.WriteByte('0' + c/100)
		out.WriteByte('0' + c/10%10)
		out.WriteByte('0' + c%10)
	default:
		out.WriteByte(c)
	}
}

// Parse: the name whose text is s.
func Parse(s string) (n api.Name, e api.Errno) {
	defer func() {
		if recover() != nil {
			n, e = nil, api.ErrName
		}
	}()
	n = read(s)
	e = Check(n)
	if e != api.OK {
		return nil, e
	}
	return n, api.OK
}

// read: the labels of s, of whatever length; it panics, if s can't be read.
func read(s string) api.Name {
	if s == "." {
		return nil
	}
	var t reading
	for at, r := range s {
		// A byte that is no rune comes as U+FFFD: the text's own bytes count,
		// not those of r.
		_, size := utf8.DecodeRuneInString(s[at:])
		t.take(r, s[at:at+size])
	}
	return t.end()
}

// reading: what has been read of a text.
type reading struct {
	labels  api.Name
	label   []byte // the label that isn't ended yet
	escaped bool   // a \ came, and not yet all that belongs to it
	digits  int    // so many digits came behind that \
	number  int    // what they say
}

// take reads one more rune, whose bytes are piece.
func (t *reading) take(r rune, piece string) {
	switch {
	case t.escaped && (t.digits > 0 || isDigit(r)):
		t.takeDigit(r)
	case t.escaped:
		t.escaped = false
		t.label = append(t.label, piece...)
	case r == '\\':
		t.escaped = true
	case r == '.':
		t.endLabel()
	default:
		t.label = append(t.label, piece...)
	}
}

// takeDigit reads one more of the three digits that say a byte.
func (t *reading) takeDigit(r rune) {
	if !isDigit(r) {
		panic(api.ErrName)
	}
	t.number = t.number*10 + int(r-'0')
	t.digits++
	if t.digits < 3 {
		return
	}
	if t.number > 255 {
		panic(api.ErrName)
	}
	t.label = append(t.label, byte(t.number))
	t.escaped, t.digits, t.number = false, 0, 0
}

// endLabel ends the label that has been read.
func (t *reading) endLabel() {
	if len(t.label) == 0 {
		panic(api.ErrName)
	}
	t.labels = append(t.labels, string(t.label))
	t.label = t.label[:0]
}

// end: the labels, the text being read to its end.
func (t *reading) end() api.Name {
	if t.escaped {
		panic(api.ErrName)
	}
	// Behind a last dot there is no label; without any, the text is empty.
	if len(t.label) > 0 || len(t.labels) == 0 {
		t.endLabel()
	}
	return t.labels
}

// isDigit: whether r is a digit of ASCII.
func isDigit(r rune) bool { return '0' <= r && r <= '9' }
