package digest_test

import (
	"bytes"
	"crypto/sha256"
	"encoding/base32"
	"encoding/base64"
	"encoding/hex"
	"math"
	"slices"
	"strings"
	"testing"

	"signet/api"
	"signet/digest"
	"signet/name"
)

// maxIter: the document's MaxIter.
const maxIter = 50

// pattern: n bytes of which neighbours, and bytes sixteen apart, are unlike.
func pattern(n int) []byte {
	b := make([]byte, n)
	for i := range b {
		b[i] = byte(i*53 + i>>4*29 + 3)
	}
	return b
}

// small: s with its capitals of ASCII small, all other bytes as they are.
func small(s string) string {
	b := []byte(s)
	for i, c := range b {
		if 'A' <= c && c <= 'Z' {
			b[i] = c ^ 0x20
		}
	}
	return string(b)
}

// wire: n's bytes in small letters, in the words of chapter 3.
func wire(n api.Name) []byte {
	var b []byte
	for _, label := range n {
		b = append(b, byte(len(label)&0xff))
		b = append(b, small(label)...)
	}
	return append(b, 0)
}

// wantTag: pair by pair, the sum as great as it becomes.
func wantTag(data []byte) uint16 {
	sum := uint64(0)
	for pair := range slices.Chunk(data, 2) {
		sum += uint64(pair[0]) * 256
		if len(pair) == 2 {
			sum += uint64(pair[1])
		}
	}
	upper := sum / 65536 % 65536
	return uint16((sum + upper) % 65536)
}

func wantDs(owner api.Name, data []byte) []byte {
	tag, algorithm := wantTag(data), byte(0)
	if len(data) >= 4 {
		algorithm = data[3]
	}
	sum := sha256.Sum256(append(wire(owner), data...))
	return append([]byte{byte(tag / 256), byte(tag % 256), algorithm, 2}, sum[:]...)
}

// wantHash: count rounds behind the first one.
func wantHash(n api.Name, salt []byte, count int) [20]byte {
	sum := sha256.Sum256(append(wire(n), salt...))
	for ; count > 0; count-- {
		sum = sha256.Sum256(append(bytes.Clone(sum[:20]), salt...))
	}
	return [20]byte(sum[:20])
}

// wantOwner: by the library's base32.
func wantOwner(n, apex api.Name, salt []byte, count int) api.Name {
	sum := wantHash(n, salt, count)
	label := base32.HexEncoding.WithPadding(base32.NoPadding).EncodeToString(sum[:])
	return slices.Concat(api.Name{strings.ToLower(label)}, apex)
}

// names: the root, ordinary ones, ones with capitals and with bytes that are
// no letters, ones at the limits and ones that may not be.
func names() []api.Name {
	long := strings.Repeat("L", 63)
	return []api.Name{
		nil,
		{"example"},
		{"A", "eXample", "ORG"},
		{"*", "w", "example"},
		{"@[`{", "\x00\xff", "a.b\\", "ÉÀ", "\u212a", "\xc9"},
		{long},
		{long, long, long, long[:61]},
		slices.Repeat(api.Name{"A"}, 127),
		{""},
		{"A", "", "B"},
		{strings.Repeat("X", 64)},
		{strings.Repeat("X", 256), "Y"},
		{strings.Repeat("X", 5000)},
		slices.Repeat(api.Name{"aB"}, 2000),
	}
}

// salts: none, some, the greatest, ones that are longer than a salt may be.
func salts() [][]byte {
	return [][]byte{nil, {}, {0}, {0, 0}, {0xaa, 0xbb, 0xcc, 0xdd}, []byte("ABC"), pattern(15), pattern(16), pattern(17), pattern(255), pattern(256), pattern(3000)}
}

// iters: what is handed in, and how many rounds that is.
func iters() [][2]int {
	rows := [][2]int{
		{math.MinInt, 0}, {math.MinInt32, 0}, {-65536, 0}, {-256, 0}, {-50, 0}, {-2, 0}, {-1, 0},
		{51, maxIter}, {52, maxIter}, {100, maxIter}, {255, maxIter}, {256, maxIter}, {257, maxIter},
		{65535, maxIter}, {65536, maxIter}, {65537, maxIter}, {math.MaxInt32, maxIter},
		{1 << 32, maxIter}, {1<<32 + 1, maxIter}, {math.MaxInt, maxIter},
	}
	for iter := range maxIter + 1 {
		rows = append(rows, [2]int{iter, iter})
	}
	return rows
}

// keyData: a DNSKEY's data, the key in base64.
func keyData(t *testing.T, head []byte, key string) []byte {
	t.Helper()
	b, err := base64.StdEncoding.DecodeString(key)
	if err != nil {
		t.Fatal(err)
	}
	return append(head, b...)
}

func isTag(t *testing.T, data []byte) {
	t.Helper()
	if got, want := digest.Tag(data), wantTag(data); got != want {
		t.Errorf("P9.1: Tag of %d bytes, %.9x: %d, not %d", len(data), data, got, want)
	}
}

func isDs(t *testing.T, owner api.Name, data []byte) {
	t.Helper()
	if got, want := digest.Ds(owner, data), wantDs(owner, data); !bytes.Equal(got, want) {
		t.Errorf("P9.1: Ds(%.40q, %d bytes): %x, not %x", owner, len(data), got, want)
	}
}

// TestKnownKeys (P9.1): the key of RFC 4509's example, whose tag RFC 4034
// tells, and the root's key of 2017.
func TestKnownKeys(t *testing.T) {
	rows := []struct {
		owner api.Name
		head  []byte
		key   string
		tag   uint16
		ds    string
	}{
		{api.Name{"dskey", "example", "com"}, []byte{1, 0, 3, 5},
			"AQOeiiR0GOMYkDshWoSKz9XzfwJr1AYtsmx3TGkJaNXVbfi/2pHm822aJ5iI9BMzNXxeYCmZDRD99WYwYqUSdjMmmAphXdvxegXd/M5+X7OrzKBaMbCVdFLUUh6DhweJBjEVv5f2wwjM9XzcnOf+EPbtG9DMBmADjFDc2w/rljwvFw==",
			60485, "ec450502d4b7d520e7bb5f0f67674a0cceb1e3e0614b93c4f9e99b8383f6a1e4469da50a"},
		{nil, []byte{1, 1, 3, 8},
			"AwEAAaz/tAm8yTn4Mfeh5eyI96WSVexTBAvkMgJzkKTOiW1vkIbzxeF3+/4RgWOq7HrxRixHlFlExOLAJr5emLvN7SWXgnLh4+B5xQlNVz8Og8kvArMtNROxVQuCaSnIDdD5LKyWbRd2n9WGe2R8PzgCmr3EgVLrjyBxWezF0jLHwVN8efS3rCj/EWgvIWgb9tarpVUDK/b58Da+sqqls3eNbuv7pr+eoZG+SrDK6nWeL3c6H5Apxz7LjVc1uTIdsIXxuOLYA4/ilBmSVIzuDWfdRUfhHdY6+cn8HFRm+2hM8AnXGXws9555KrUB5qihylGa8subX2Nn6UwNR1AkUTV74bU=",
			20326, "4f660802e06d44b80b8f1d39a95c0b0d7c65d08458e880409bbc683457104237c7f8ec8d"},
	}
	for _, row := range rows {
		data := keyData(t, row.head, row.key)
		if got := digest.Tag(data); got != row.tag {
			t.Errorf("P9.1: tag %d, not %d", got, row.tag)
		}
		if got := digest.Ds(row.owner, data); hex.EncodeToString(got) != row.ds {
			t.Errorf("P9.1: DS %x, not %s", got, row.ds)
		}
	}
}

// TestTag (P9.1): few bytes, and sums about the ends of 16 bits: the upper
// half is put on once, though that sum has an upper half of its own.
func TestTag(t *testing.T) {
	rows := []struct {
		data []byte
		want uint16
	}{
		{nil, 0},
		{[]byte{}, 0},
		{[]byte{0}, 0},
		{[]byte{1}, 0x0100},
		{[]byte{0, 1}, 0x0001},
		{[]byte{0x12, 0x34}, 0x1234},
		{[]byte{0x12, 0x34, 0x56}, 0x6834},
		{[]byte{0x12, 0x34, 0x56, 0x78}, 0x68ac},
		{[]byte{0xff}, 0xff00},
		{[]byte{0xff, 0xff}, 0xffff},
		{[]byte{0xff, 0xff, 0, 0}, 0xffff},
		{[]byte{0xff, 0xff, 0, 1}, 0x0001},             // 0x10000
		{[]byte{0xff, 0xff, 0, 0, 0xff}, 0xff00},       // 0x1feff
		{[]byte{0xff, 0xff, 0xff, 0xff}, 0xffff},       // 0x1fffe
		{[]byte{0xff, 0xff, 0xff, 0xff, 0, 1}, 0x0000}, // 0x1ffff and 1 are 0x20000
		{[]byte{0xff, 0xff, 0xff, 0xff, 0, 2}, 0x0002}, // 0x20000
	}
	for _, row := range rows {
		if got := digest.Tag(row.data); got != row.want {
			t.Errorf("P9.1: Tag(%x): %04x, not %04x", row.data, got, row.want)
		}
		isTag(t, row.data)
	}
}

// TestTagLengths (P9.1): every length up to some hundred bytes, and lengths
// whose sums come near 32 bits and go past them.
func TestTagLengths(t *testing.T) {
	lengths := []int{8191, 8192, 8193, 65535, 65536, 131070, 131071, 131072, 131073, 131074, 131075, 131076, 140001, 1<<20 + 1}
	for n := range 300 {
		lengths = append(lengths, n)
	}
	for _, n := range lengths {
		isTag(t, pattern(n))
		isTag(t, bytes.Repeat([]byte{0xff}, n))
		isTag(t, bytes.Repeat([]byte{0xff, 0}, n)[:n])
		isTag(t, bytes.Repeat([]byte{0, 0xff}, n)[:n])
	}
}

// TestTagPlaces (P9.1): one byte that isn't nought, at each place.
func TestTagPlaces(t *testing.T) {
	for at := range 60 {
		for _, c := range []byte{1, 127, 128, 255} {
			data := make([]byte, 60)
			data[at] = c
			want := uint16(c)
			if at%2 == 0 {
				want *= 256
			}
			if got := digest.Tag(data); got != want {
				t.Errorf("P9.1: %d at %d: %04x", c, at, got)
			}
		}
	}
}

// TestTagAlgorithm (P9.1): no algorithm has a tag of another kind.
func TestTagAlgorithm(t *testing.T) {
	for algorithm := range 256 {
		data := pattern(40)
		data[3] = byte(algorithm)
		isTag(t, data)
		if got := digest.Ds(nil, data)[2]; got != byte(algorithm) {
			t.Errorf("P9.1: algorithm %d as %d", algorithm, got)
		}
	}
}

// TestDs (P9.1): all kinds of owners, data of all lengths about that which
// tells an algorithm, and data longer than a record's.
func TestDs(t *testing.T) {
	for _, owner := range names() {
		for _, n := range []int{0, 1, 2, 3, 4, 5, 8, 12, 260, 8192, 8193, 70000} {
			isDs(t, owner, pattern(n))
		}
		isDs(t, owner, nil)
	}
	short := digest.Ds(api.Name{"a"}, []byte{1, 2, 3})
	if len(short) != 36 || short[2] != 0 || short[3] != 2 {
		t.Errorf("P9.1: %x", short)
	}
	if got := digest.Ds(nil, []byte{9, 8, 7, 6}); got[2] != 6 {
		t.Errorf("P9.1: of four bytes the algorithm is %d", got[2])
	}
}

// TestDsUnlike (P9.1): owners and data both count, the data's capitals too.
func TestDsUnlike(t *testing.T) {
	first := digest.Ds(api.Name{"a", "example"}, []byte{1, 1, 3, 253, 'k'})
	others := [][]byte{
		digest.Ds(api.Name{"b", "example"}, []byte{1, 1, 3, 253, 'k'}),
		digest.Ds(api.Name{"example"}, []byte{1, 1, 3, 253, 'k'}),
		digest.Ds(api.Name{"aexample"}, []byte{1, 1, 3, 253, 'k'}),
		digest.Ds(api.Name{"a", "example"}, []byte{1, 1, 3, 253, 'K'}),
		digest.Ds(api.Name{"a", "example"}, []byte{1, 1, 3, 253, 'k', 0}),
	}
	for i, other := range others {
		if bytes.Equal(first[4:], other[4:]) {
			t.Errorf("P9.1: other %d has the same digest", i)
		}
	}
}

// TestHashKnown (P9.2): values that another program worked out.
func TestHashKnown(t *testing.T) {
	rows := []struct {
		n     api.Name
		salt  []byte
		iter  int
		hash  string
		label string
	}{
		{nil, nil, 0, "6e340b9cffb37a989ca544e6bb780a2c78901d3f", "doq0n77vmdt9h7558jjbmu0a5hs9079v"},
		{api.Name{"example"}, []byte{0xaa, 0xbb, 0xcc, 0xdd}, 12, "b40dd484d8c2d52e2ebb1202862bbecef313b8b5", "mg6t916oobaisblr2818catuprph7e5l"},
		{api.Name{"a", "example"}, []byte{0xaa, 0xbb, 0xcc, 0xdd}, 12, "0112ab0d5b46c91025e9055c5117b3af520be705", "049am3ar8r4h09f90le525tjlt90npo5"},
		{api.Name{"*", "w", "example"}, nil, 1, "86094ac62cc64087d8d902e1359749c18060564e", "go4klhhcop08fm6p0bgjb5q9o6060lie"},
		{api.Name{"a", "example"}, []byte{0, 1, 2, 3, 4, 5, 6, 7, 8, 9, 10, 11, 12, 13, 14, 15}, 49, "74d2a1fcb673414aece0fc9ac6c2014cbad739e7", "ej9a3v5med0klr70vidcdgg19itdeef7"},
		{api.Name{"a", "example"}, []byte{0, 1, 2, 3, 4, 5, 6, 7, 8, 9, 10, 11, 12, 13, 14, 15}, 50, "3afc21ab8940648424c8e6ac66b5aa50f372111d", "7bu23as981i88968sqm6dddaa3pn448t"},
		{api.Name{"a", "example"}, []byte{0, 1, 2, 3, 4, 5, 6, 7, 8, 9, 10, 11, 12, 13, 14, 15}, 51, "3afc21ab8940648424c8e6ac66b5aa50f372111d", "7bu23as981i88968sqm6dddaa3pn448t"},
	}
	for _, row := range rows {
		got := digest.Hash(row.n, row.salt, row.iter)
		if hex.EncodeToString(got[:]) != row.hash {
			t.Errorf("P9.2: Hash(%q, %x, %d): %x, not %s", row.n, row.salt, row.iter, got, row.hash)
		}
		owner := digest.Owner(row.n, api.Name{"Example"}, row.salt, row.iter)
		if !slices.Equal(owner, api.Name{row.label, "Example"}) {
			t.Errorf("P9.2: Owner(%q, %x, %d): %q", row.n, row.salt, row.iter, owner)
		}
	}
}

// TestHashIters (P9.2): each count of rounds, what is below 0 and what is
// above the greatest count.
func TestHashIters(t *testing.T) {
	n, apex, salt := api.Name{"a", "Example"}, api.Name{"Example"}, pattern(8)
	for _, row := range iters() {
		if digest.Hash(n, salt, row[0]) != wantHash(n, salt, row[1]) {
			t.Errorf("P9.2: Hash, iter %d", row[0])
		}
		if !slices.Equal(digest.Owner(n, apex, salt, row[0]), wantOwner(n, apex, salt, row[1])) {
			t.Errorf("P9.2: Owner, iter %d", row[0])
		}
	}
	if api.MaxIter != maxIter || wantHash(n, salt, maxIter) == wantHash(n, salt, maxIter-1) {
		t.Error("P9.2: the greatest count")
	}
}

// TestHashArguments (P9.2): all kinds of names, also ones that may not be,
// under salts of all sizes: a salt's bytes count as they are, and all of them.
func TestHashArguments(t *testing.T) {
	for _, n := range names() {
		for _, salt := range salts() {
			for _, iter := range []int{0, 1, 2, 13} {
				if digest.Hash(n, salt, iter) != wantHash(n, salt, iter) {
					t.Errorf("P9.2: Hash(%.40q, %.9x, %d)", n, salt, iter)
				}
			}
		}
	}
}

// TestHashUnlike (P9.2): names, salts and rounds all count. Names that may
// not be are left out: bytes of theirs may be those of another and its salt.
func TestHashUnlike(t *testing.T) {
	type question struct{ n, salt, iter int }
	seen := map[[20]byte]question{}
	for i, n := range names() {
		if name.Check(n) != api.OK {
			continue
		}
		for k, salt := range salts()[1:] {
			for iter := range 5 {
				got, asked := digest.Hash(n, salt, iter), question{i, k, iter}
				if other, ok := seen[got]; ok {
					t.Fatalf("P9.2: %v and %v are alike", other, asked)
				}
				seen[got] = asked
			}
		}
	}
}

// TestOwner (P9.2): a label of 32 small digits under apex, whose letters stay
// as they are, whatever the apex is; the name needn't be within it.
func TestOwner(t *testing.T) {
	for _, n := range names() {
		for _, apex := range names() {
			got := digest.Owner(n, apex, []byte{7}, 2)
			if !slices.Equal(got, wantOwner(n, apex, []byte{7}, 2)) {
				t.Errorf("P9.2: Owner(%.40q, %.40q): %.80q", n, apex, got)
			}
			if len(got[0]) != 32 || strings.Trim(got[0], "0123456789abcdefghijklmnopqrstuv") != "" {
				t.Errorf("P9.2: the label %q", got[0])
			}
		}
	}
}

// TestSameNames (P9.3): names that differ by capitals alone have one hash,
// one owner, one DS; all bytes, letters or not, at each place of a label.
func TestSameNames(t *testing.T) {
	for one := range 256 {
		for other := range 256 {
			a, b := api.Name{"x" + string([]byte{byte(one)}) + "Y", "z"}, api.Name{"X" + string([]byte{byte(other)}) + "y", "Z"}
			same := name.Same(a, b)
			if (digest.Hash(a, nil, 1) == digest.Hash(b, nil, 1)) != same {
				t.Fatalf("P9.3: Hash of %q and %q", a, b)
			}
			if same != (small(a[0]) == small(b[0])) {
				t.Fatalf("P9.3: %q and %q", a, b)
			}
		}
	}
	for _, n := range names() {
		var capitals api.Name
		for _, label := range n {
			turned := []byte(label)
			for i, c := range turned {
				if 'a' <= c && c <= 'z' {
					turned[i] = c - 0x20
				}
			}
			capitals = append(capitals, string(turned))
		}
		lower := name.Lower(n)
		for _, iter := range []int{-1, 0, 3, 50} {
			if digest.Hash(n, []byte("Salt"), iter) != digest.Hash(capitals, []byte("Salt"), iter) || digest.Hash(n, []byte("Salt"), iter) != digest.Hash(lower, []byte("Salt"), iter) {
				t.Errorf("P9.3: Hash of %.40q", n)
			}
			if !slices.Equal(digest.Owner(n, api.Name{"Apex"}, nil, iter), digest.Owner(capitals, api.Name{"Apex"}, nil, iter)) {
				t.Errorf("P9.3: Owner of %.40q", n)
			}
		}
		if !bytes.Equal(digest.Ds(n, pattern(20)), digest.Ds(capitals, pattern(20))) {
			t.Errorf("P9.3: Ds of %.40q", n)
		}
	}
}

// TestNil (P9.1, P9.2): nil and empty are the same.
func TestNil(t *testing.T) {
	if digest.Tag(nil) != digest.Tag([]byte{}) || !bytes.Equal(digest.Ds(nil, nil), digest.Ds(api.Name{}, []byte{})) {
		t.Error("P9.1: nil")
	}
	if digest.Hash(nil, nil, 3) != digest.Hash(api.Name{}, []byte{}, 3) || !slices.Equal(digest.Owner(nil, nil, nil, 3), digest.Owner(api.Name{}, api.Name{}, []byte{}, 3)) {
		t.Error("P9.2: nil")
	}
}

// TestLeavesArguments (P9.1, P9.2): what is handed in, and the room behind
// it, stays as it was, and that room doesn't count.
func TestLeavesArguments(t *testing.T) {
	nameRoom := func() api.Name { return api.Name{"A", "Example", "More", "And", "More"} }
	apexRoom := func() api.Name { return api.Name{"Example", "Spare", "Room"} }
	for _, n := range []int{0, 1, 3, 4, 16, 200} {
		owner, apex, data := nameRoom(), apexRoom(), pattern(n+300)
		if digest.Tag(data[:n]) != wantTag(pattern(n)) || !bytes.Equal(digest.Ds(owner[:2], data[:n]), wantDs(nameRoom()[:2], pattern(n))) {
			t.Errorf("P9.1: the room behind %d bytes counts", n)
		}
		if digest.Hash(owner[:2], data[:n], 4) != wantHash(nameRoom()[:2], pattern(n), 4) {
			t.Errorf("P9.2: the room behind %d bytes counts", n)
		}
		if !slices.Equal(digest.Owner(owner[:2], apex[:1], data[:n], 4), wantOwner(nameRoom()[:2], apexRoom()[:1], pattern(n), 4)) {
			t.Errorf("P9.2: the room behind apex counts")
		}
		if !slices.Equal(owner, nameRoom()) || !slices.Equal(apex, apexRoom()) || !bytes.Equal(data, pattern(n+300)) {
			t.Error("P9.1, P9.2: what was handed in changed")
		}
	}
}

// TestNewMemory (P9.1, P9.2): answers share nothing with each other or with
// what was handed in, and don't hang on calls ahead of them.
func TestNewMemory(t *testing.T) {
	n, apex, data := api.Name{"A", "Example"}, api.Name{"Example"}, pattern(30)
	ds, owner := digest.Ds(n, data), digest.Owner(n, apex, data, 2)
	otherDs, otherOwner := digest.Ds(n, data), digest.Owner(n, apex, data, 2)
	clear(otherDs[:cap(otherDs)])
	clear(otherOwner[:cap(otherOwner)])
	wantName := api.Name{"A", "Example"}
	if !slices.Equal(n, wantName) || !slices.Equal(apex, wantName[1:]) || !bytes.Equal(data, pattern(30)) {
		t.Error("P9.1, P9.2: an answer shares memory with what was handed in")
	}
	apex[0] = "other"
	clear(n)
	clear(data)
	if !bytes.Equal(ds, wantDs(wantName, pattern(30))) || !slices.Equal(owner, wantOwner(wantName, wantName[1:], pattern(30), 2)) {
		t.Error("P9.1, P9.2: an answer changed")
	}
	if !bytes.Equal(digest.Ds(n, data), wantDs(n, data)) || !slices.Equal(digest.Owner(n, apex, data, 2), wantOwner(n, apex, data, 2)) {
		t.Error("P9.1, P9.2: old arguments were kept")
	}
}
