package tree_test

import (
	"bytes"
	"crypto/sha256"
	"encoding/binary"
	"encoding/hex"
	"math"
	"testing"

	"signet/api"
	"signet/tree"
)

const (
	bits       = 32
	half       = 8
	pair       = 2 * half
	numberSize = 4
	sistersAt  = numberSize + bits*pair
	maxHeight  = 10
)

// pattern: n bytes of which neighbours, and bytes eight apart, are unlike.
func pattern(n int) []byte {
	b := make([]byte, n)
	for i := range b {
		b[i] = byte(i*37 + i>>3*11 + 5)
	}
	return b
}

func seeds() [][8]byte {
	return [][8]byte{
		{},
		{255, 255, 255, 255, 255, 255, 255, 255},
		{1, 2, 3, 4, 5, 6, 7, 8},
		{128},
		{0, 0, 0, 0, 0, 0, 0, 1},
	}
}

// messages: none, short ones, some hundred bytes.
func messages() [][]byte {
	return [][]byte{nil, {}, {0}, {255}, []byte("a"), []byte("abc"), pattern(55), pattern(64), pattern(300), pattern(900)}
}

// noHeights: what is below 0 and what is above 10; 8 times some of them
// comes round to a small number.
func noHeights() []int {
	return []int{-1, -2, -8, -64, -65, -256, math.MinInt32, math.MinInt,
		-1 << 61, 11, 12, 31, 32, 63, 64, 65, 255, 256, 1 << 32, 1<<32 + 2, 1 << 40, 1 << 61, 1<<61 + 1, 1<<61 + 10, 1 << 62, math.MaxInt}
}

// short: hash.Short in the words of chapter 1, by the library's SHA-256.
func short(tag byte, parts ...[]byte) []byte {
	text := []byte{tag}
	for _, part := range parts {
		text = binary.BigEndian.AppendUint32(text, uint32(len(part)))
		text = append(text, part...)
	}
	sum := sha256.Sum256(text)
	return sum[:half]
}

func wantSecret(seed [8]byte, leaf, bit, value int) []byte {
	number := binary.BigEndian.AppendUint32(nil, uint32(leaf))
	return short(1, seed[:], number, []byte{byte(bit)}, []byte{byte(value)})
}

// wantPublic: onetime.Public in the words of chapter 7.
func wantPublic(seed [8]byte, leaf int) []byte {
	var locks []byte
	for i := range 2 * bits {
		locks = append(locks, short(2, wantSecret(seed, leaf, i/2, i%2))...)
	}
	return short(3, locks)
}

// wantOnetime: onetime.Sign in the words of chapter 7.
func wantOnetime(seed [8]byte, leaf int, msg []byte) []byte {
	sum := sha256.Sum256(msg)
	digest := binary.BigEndian.Uint32(sum[:])
	var sig []byte
	for i := range bits {
		value := int(digest >> (bits - 1 - i) % 2)
		sig = append(sig, wantSecret(seed, leaf, i, value)...)
		sig = append(sig, short(2, wantSecret(seed, leaf, i, 1-value))...)
	}
	return sig
}

// wantNode: the node of that level, the leaves' being 0, worked out from
// above.
func wantNode(seed [8]byte, level, place int) []byte {
	if level == 0 {
		return wantPublic(seed, place)
	}
	return short(4, wantNode(seed, level-1, 2*place), wantNode(seed, level-1, 2*place+1))
}

func wantSign(seed [8]byte, h, leaf int, msg []byte) []byte {
	sig := binary.BigEndian.AppendUint32(nil, uint32(leaf))
	sig = append(sig, wantOnetime(seed, leaf, msg)...)
	for level := range h {
		sig = append(sig, wantNode(seed, level, leaf>>level^1)...)
	}
	return sig
}

// wantTop: where a way up from that node of the lowest level ends.
func wantTop(node []byte, leaf int, sisters [][]byte) []byte {
	for level, sister := range sisters {
		if leaf>>level%2 == 0 {
			node = short(4, node, sister)
		} else {
			node = short(4, sister, node)
		}
	}
	return node
}

func made(t *testing.T, seed [8]byte, h int) *tree.Tree {
	t.Helper()
	x, e := tree.New(seed, h)
	if e != api.OK || x == nil {
		t.Fatalf("P8.1: height %d: %v", h, e)
	}
	return x
}

func signed(t *testing.T, x *tree.Tree, leaf int, msg []byte) []byte {
	t.Helper()
	sig, e := x.Sign(uint32(leaf), msg)
	if e != api.OK {
		t.Fatalf("P8.2: leaf %d: %v", leaf, e)
	}
	return sig
}

func rootOf(x *tree.Tree) []byte {
	root := x.Root()
	return root[:]
}

// withLeaf: the signature with another number ahead.
func withLeaf(sig []byte, leaf uint32) []byte {
	turned := bytes.Clone(sig)
	binary.BigEndian.PutUint32(turned, leaf)
	return turned
}

// TestRootKnown (P8.1): values that another program worked out; a tree of one
// leaf is that leaf.
func TestRootKnown(t *testing.T) {
	rows := []struct {
		seed [8]byte
		h    int
		want string
	}{
		{seeds()[0], 0, "553a79d50355f831"},
		{seeds()[0], 1, "e13d8d1997599ad9"},
		{seeds()[0], 2, "49fccee2df26d845"},
		{seeds()[0], 3, "d3eaa35612936bf1"},
		{seeds()[0], 5, "a9b112e56f7ae689"},
		{seeds()[0], 10, "9918be696425c32b"},
		{seeds()[1], 0, "62052eadd900caf6"},
		{seeds()[1], 1, "df15fa847c602e56"},
		{seeds()[1], 2, "b06f8d58c35e8811"},
		{seeds()[1], 3, "eb0366d5fea4cc6a"},
		{seeds()[1], 5, "7f2c36c0f7b6e9ce"},
		{seeds()[1], 10, "6db5d009879dd10e"},
		{seeds()[2], 0, "28f937b1cd49b943"},
		{seeds()[2], 1, "30619aa6e40c1301"},
		{seeds()[2], 2, "03e39147aa0861e0"},
		{seeds()[2], 3, "7331afc3aa14168e"},
		{seeds()[2], 5, "d18f7b6469f10e11"},
		{seeds()[2], 10, "ac2289c1b974b052"},
	}
	for _, row := range rows {
		if got := rootOf(made(t, row.seed, row.h)); hex.EncodeToString(got) != row.want {
			t.Errorf("P8.1: seed %x, height %d: %x, not %s", row.seed, row.h, got, row.want)
		}
	}
}

// TestNew (P8.1): every height has its leaves and its root.
func TestNew(t *testing.T) {
	for h := range maxHeight + 1 {
		for _, seed := range seeds()[2:4] {
			x := made(t, seed, h)
			if got := x.Leaves(); got != uint32(math.Pow(2, float64(h))) {
				t.Errorf("P8.1: height %d: %d leaves", h, got)
			}
			if got, want := rootOf(x), wantNode(seed, h, 0); !bytes.Equal(got, want) {
				t.Errorf("P8.1: height %d: root %x, not %x", h, got, want)
			}
		}
	}
}

// TestNewRefused (P8.1): heights below 0 and above 10: an error, and no tree
// beside it.
func TestNewRefused(t *testing.T) {
	for _, h := range noHeights() {
		for _, seed := range seeds()[:3] {
			if x, e := tree.New(seed, h); e != api.ErrTree || x != nil {
				t.Errorf("P8.1: height %d: %v, %v", h, x, e)
			}
		}
	}
}

// TestRootsUnlike (P8.1): other seeds and heights have other roots.
func TestRootsUnlike(t *testing.T) {
	by := map[[8]byte]bool{}
	for _, seed := range seeds() {
		for h := range 6 {
			by[made(t, seed, h).Root()] = true
		}
	}
	if len(by) != 6*len(seeds()) {
		t.Errorf("P8.1: %d roots", len(by))
	}
}

// TestSignKnown (P8.2): values that another program worked out: how many
// bytes, the sisters, the hash of the whole.
func TestSignKnown(t *testing.T) {
	rows := []struct {
		h, leaf       int
		msg           []byte
		size          int
		sisters, hash string
	}{
		{0, 0, nil, 516, "", "25bb9a5c8efe64e09e56d9e85f8d1e63f650caf48140b21b35a9baa185e6f21a"},
		{1, 0, []byte("abc"), 524, "b3af526ea8697eaa", "19d1cc5ab6cdfb41d7588ba0099fb243ee1b54faad72ba2b3698bcbbfa4202dc"},
		{1, 1, []byte("abc"), 524, "28f937b1cd49b943", "7ae75a4e0ef45ca383e3879ae2e4eb497e08c34fd50433195a8237d2eba5ecf4"},
		{2, 1, nil, 532, "28f937b1cd49b943c49f0f279c2e00d5", "5b45052d821669bd7f70f25475f26f69373162d89c5bd8da6de5b57302fb7339"},
		{2, 2, []byte("a"), 532, "65f5e25a5196170d30619aa6e40c1301", "d051f538ecc2629f2edf69a7ac976acae4bdde8f10fcf870ed406583099b2fb9"},
		{3, 6, []byte{0}, 540, "854a7b5158f68d384c0fdd83e196e12b03e39147aa0861e0", "3fc58b6a67b6a844905e1d23c79f671b1251a9c2c3dc513d3cce81df684adc81"},
		{10, 0, []byte("abc"), 596, "b3af526ea8697eaac49f0f279c2e00d5e22b6919721eda8f481b9e083733eb1cf902e50ffdb121d3dabc0897c93a5c4320de2bfc2e8c0bed8b0089aa3b7f48ffa8c6094c87b9b44f30995ab804623576", "ffa1e63a611ac612f82bc628629bf448e0c930f159c2aac424325813208d05f8"},
		{10, 682, bytes.Repeat([]byte("a"), 700), 596, "6119db7f45b7179cdb873bfbbffe9514aa82baaf98c9131f5b4023bbabad8a8b502cdb515f34e07be4bc30b203490835124d243a3260b07950fbe1134b84bdad4eaccd924f17f91c2cbb00ed1e98e42d", "09f7037979b03cb541e0559577ade53817d4783af11d9c85a4bf0b59c4cbac57"},
		{10, 1023, nil, 596, "32ebfd6e0e2c55d6cabc1ee5f0c53957b4f8623afb0b554ccb3a34275adf8d4b07d5cc448891bf1bdf015355ee8925e5878490313521516e4a6bdef323345c58cb761c0c31b47e662cbb00ed1e98e42d", "3c532ead568c5dd957c186fa05784926a47f365ad61b147869ed5547ff7036b1"},
	}
	for _, row := range rows {
		x := made(t, seeds()[2], row.h)
		sig := signed(t, x, row.leaf, row.msg)
		if len(sig) != row.size {
			t.Fatalf("P8.2: height %d: %d bytes", row.h, len(sig))
		}
		sum := sha256.Sum256(sig)
		if hex.EncodeToString(sig[sistersAt:]) != row.sisters || hex.EncodeToString(sum[:]) != row.hash {
			t.Errorf("P8.2: height %d, leaf %d: signed as %x", row.h, row.leaf, sig)
		}
		if !tree.Verify(rootOf(x), row.h, row.msg, sig) {
			t.Errorf("P8.3: height %d, leaf %d", row.h, row.leaf)
		}
	}
}

// TestSignParts (P8.2): a number, a one-time signature, the sisters from the
// lowest one up.
func TestSignParts(t *testing.T) {
	for h := range 5 {
		for i, seed := range seeds() {
			x := made(t, seed, h)
			for leaf := range 1 << h {
				msg := messages()[(leaf+i)%len(messages())]
				if got := signed(t, x, leaf, msg); !bytes.Equal(got, wantSign(seed, h, leaf, msg)) {
					t.Errorf("P8.2: seed %x, height %d, leaf %d: %x", seed, h, leaf, got)
				}
			}
		}
	}
	seed, h := seeds()[2], maxHeight
	x := made(t, seed, h)
	for _, leaf := range []int{0, 1, 255, 256, 511, 512, 1022, 1023} {
		if got := signed(t, x, leaf, pattern(300)); !bytes.Equal(got, wantSign(seed, h, leaf, pattern(300))) {
			t.Errorf("P8.2: height %d, leaf %d: %x", h, leaf, got)
		}
	}
}

// TestSignRefused (P8.2): the leaf behind the last one, and those far behind
// it: an error, and no signature beside it; the tree goes on as it was.
func TestSignRefused(t *testing.T) {
	seed := seeds()[2]
	for h := range maxHeight + 1 {
		x := made(t, seed, h)
		count := uint32(1) << h
		for _, leaf := range []uint32{count, count + 1, 2 * count, 3*count - 1, 1 << 16, 1<<16 + count - 1, 1 << 31, 1<<31 + count - 1, 4294967294, 4294967295} {
			for _, msg := range messages()[:4] {
				if sig, e := x.Sign(leaf, msg); e != api.ErrTree || len(sig) != 0 {
					t.Errorf("P8.2: height %d, leaf %d: %d bytes, %v", h, leaf, len(sig), e)
				}
			}
		}
		last := int(count - 1)
		if x.Leaves() != count || !tree.Verify(rootOf(x), h, nil, signed(t, x, last, nil)) {
			t.Errorf("P8.2: height %d: changed by what was refused", h)
		}
	}
}

// TestLeaf (P8.2): the first four bytes, the highest first, whatever follows;
// fewer: false, and 0 beside it.
func TestLeaf(t *testing.T) {
	rows := []struct {
		sig  []byte
		want uint32
		ok   bool
	}{
		{nil, 0, false},
		{[]byte{}, 0, false},
		{[]byte{1}, 0, false},
		{[]byte{1, 2}, 0, false},
		{[]byte{1, 2, 3}, 0, false},
		{[]byte{255, 255, 255}, 0, false},
		{[]byte{1, 2, 3, 4}[:3], 0, false},
		{[]byte{1, 2, 3, 4}, 0x01020304, true},
		{[]byte{0, 0, 0, 0}, 0, true},
		{[]byte{255, 255, 255, 255}, 4294967295, true},
		{[]byte{128, 0, 0, 0}, 1 << 31, true},
		{[]byte{0, 0, 4, 0}, 1024, true},
		{[]byte{9, 8, 7, 6, 5}, 0x09080706, true},
		{[]byte{0, 0, 0, 7, 255, 255}, 7, true},
		{pattern(516), binary.BigEndian.Uint32(pattern(4)), true},
		{append([]byte{0, 0, 3, 255}, pattern(5000)...), 1023, true},
	}
	for _, row := range rows {
		if got, ok := tree.Leaf(row.sig); got != row.want || ok != row.ok {
			t.Errorf("P8.2: %.9x: %d, %v", row.sig, got, ok)
		}
	}
	x := made(t, seeds()[0], 5)
	for leaf := range 32 {
		if got, ok := tree.Leaf(signed(t, x, leaf, nil)); got != uint32(leaf) || !ok {
			t.Errorf("P8.2: leaf %d: %d, %v", leaf, got, ok)
		}
	}
}

// TestVerifyRoots (P8.2): a root has 8 bytes, and each of them counts.
func TestVerifyRoots(t *testing.T) {
	msg := []byte("message")
	for _, h := range []int{0, 1, 3} {
		x := made(t, seeds()[2], h)
		root, sig := rootOf(x), signed(t, x, 0, msg)
		wrong := [][]byte{nil, {}, root[:1], root[:7], root[1:], append(bytes.Clone(root), 0), append([]byte{0}, root...), append(bytes.Clone(root), root...), make([]byte, 8), make([]byte, 32)}
		for i := range root {
			for _, turn := range []byte{1, 128} {
				other := bytes.Clone(root)
				other[i] ^= turn
				wrong = append(wrong, other)
			}
		}
		for _, other := range wrong {
			if tree.Verify(other, h, msg, sig) {
				t.Errorf("P8.2: height %d: root %x instead of %x", h, other, root)
			}
		}
		if !tree.Verify(root, h, msg, sig) {
			t.Errorf("P8.2: height %d", h)
		}
	}
}

// TestVerifyHeights (P8.2): a signature is of one height; what isn't a height
// is refused, whatever the signature's size.
func TestVerifyHeights(t *testing.T) {
	msg := []byte("message")
	for h := range maxHeight + 1 {
		x := made(t, seeds()[2], h)
		root, sig := rootOf(x), signed(t, x, 0, msg)
		for other := range maxHeight + 1 {
			if tree.Verify(root, other, msg, sig) != (other == h) {
				t.Errorf("P8.2: a signature of height %d as of %d", h, other)
			}
		}
		for _, other := range noHeights() {
			if tree.Verify(root, other, msg, sig) {
				t.Errorf("P8.2: height %d", other)
			}
		}
	}
	for _, h := range noHeights() {
		for _, size := range []int{0, 3, 4, 5, 12, 508, 515, 516, 517, 524, 604, 612} {
			if tree.Verify(make([]byte, 8), h, msg, make([]byte, size)) {
				t.Errorf("P8.2: height %d, %d bytes", h, size)
			}
		}
	}
}

// anyTree: a signature whose sisters nobody worked out from a seed, and the
// root to which they lead.
func anyTree(h, leaf int, msg []byte) (root, sig []byte) {
	seed := seeds()[3]
	sig = binary.BigEndian.AppendUint32(nil, uint32(leaf))
	sig = append(sig, wantOnetime(seed, leaf, msg)...)
	var sisters [][]byte
	for level := range h {
		sister := short(99, []byte{byte(level)})
		sisters = append(sisters, sister)
		sig = append(sig, sister...)
	}
	return wantTop(wantPublic(seed, leaf), leaf, sisters), sig
}

// TestVerifyAnyTree (P8.2): what leads to the root verifies, whoever made it,
// up to the greatest height and not beyond it.
func TestVerifyAnyTree(t *testing.T) {
	for h := range maxHeight + 4 {
		for _, leaf := range []int{0, 1<<h - 1, 1 << h / 2, 1 << h / 3} {
			for _, msg := range messages()[4:6] {
				root, sig := anyTree(h, leaf, msg)
				if tree.Verify(root, h, msg, sig) != (h <= maxHeight) {
					t.Errorf("P8.2: height %d, leaf %d", h, leaf)
				}
			}
		}
	}
}

// TestVerifyNoLeaf (P8.2): a leaf that isn't there is refused, even where its
// way up would be that of one that is.
func TestVerifyNoLeaf(t *testing.T) {
	msg := []byte("message")
	for h := range maxHeight + 1 {
		count := 1 << h
		for _, leaf := range []int{0, count / 2, count - 1} {
			root, sig := anyTree(h, leaf, msg)
			if !tree.Verify(root, h, msg, sig) {
				t.Errorf("P8.2: height %d, leaf %d", h, leaf)
			}
			for _, more := range []uint32{1, 2, 1 << 8, 1 << 16, 1<<(32-h-1) - 1, 1 << (32 - h - 1)} {
				far := uint32(leaf) + more<<h
				if tree.Verify(root, h, msg, withLeaf(sig, far)) {
					t.Errorf("P8.2: height %d, leaf %d as %d", h, leaf, far)
				}
			}
			if leaf == count-1 && tree.Verify(root, h, msg, withLeaf(sig, 4294967295)) {
				t.Errorf("P8.2: height %d: leaf 4294967295", h)
			}
		}
		root, sig := anyTree(h, count, msg)
		if tree.Verify(root, h, msg, sig) {
			t.Errorf("P8.2: height %d: the leaf behind the last one", h)
		}
	}
}

// TestVerifySizes (P8.2): one byte fewer, one more, none, some others.
func TestVerifySizes(t *testing.T) {
	msg := []byte("message")
	for h := range 4 {
		x := made(t, seeds()[1], h)
		root, sig := rootOf(x), signed(t, x, 1<<h-1, msg)
		long := append(bytes.Clone(sig), pattern(40)...)
		for size := range len(long) {
			if tree.Verify(root, h, msg, long[:size]) != (size == len(sig)) {
				t.Errorf("P8.2: height %d: %d bytes", h, size)
			}
		}
		if tree.Verify(root, h, msg, nil) || tree.Verify(root, h, nil, nil) || tree.Verify(nil, h, nil, nil) || tree.Verify(root, h, msg, sig[1:]) {
			t.Errorf("P8.2: height %d: no signature", h)
		}
	}
}

// TestVerifyTurned (P8.2): each byte counts: of the leaf's number, of the
// one-time part, of the sisters.
func TestVerifyTurned(t *testing.T) {
	msg := pattern(300)
	for _, h := range []int{0, 1, 2, 5} {
		x := made(t, seeds()[2], h)
		root := rootOf(x)
		for _, leaf := range []int{0, 1<<h - 1, 1 << h / 3} {
			sig := signed(t, x, leaf, msg)
			for i := range sig {
				for _, turn := range []byte{1, 2, 128, 255} {
					sig[i] ^= turn
					if tree.Verify(root, h, msg, sig) {
						t.Errorf("P8.2: height %d, leaf %d: byte %d turned by %d", h, leaf, i, turn)
					}
					sig[i] ^= turn
				}
			}
			if !tree.Verify(root, h, msg, sig) {
				t.Errorf("P8.3: height %d, leaf %d", h, leaf)
			}
		}
	}
}

// TestVerifyOtherLeaf (P8.2): a signature under another leaf's number, with
// another leaf's sisters, with another leaf's one-time part.
func TestVerifyOtherLeaf(t *testing.T) {
	msg, h := []byte("message"), 3
	x := made(t, seeds()[2], h)
	root := rootOf(x)
	for one := range 8 {
		for other := range 8 {
			a, b := signed(t, x, one, msg), signed(t, x, other, msg)
			same := one == other
			if tree.Verify(root, h, msg, withLeaf(a, uint32(other))) != same {
				t.Errorf("P8.2: leaf %d as %d", one, other)
			}
			if tree.Verify(root, h, msg, append(bytes.Clone(a[:sistersAt]), b[sistersAt:]...)) != same {
				t.Errorf("P8.2: leaf %d with the sisters of %d", one, other)
			}
			moved := append(bytes.Clone(a[:numberSize]), b[numberSize:sistersAt]...)
			if tree.Verify(root, h, msg, append(moved, a[sistersAt:]...)) != same {
				t.Errorf("P8.2: leaf %d with the one-time part of %d", one, other)
			}
		}
	}
}

// TestVerifySistersChanged (P8.2): sisters that changed places.
func TestVerifySistersChanged(t *testing.T) {
	msg := []byte("message")
	for _, h := range []int{2, 3, 10} {
		x := made(t, seeds()[4], h)
		root := rootOf(x)
		for _, leaf := range []int{0, 1, 1<<h - 1} {
			for i := range h {
				for j := range i {
					sig := signed(t, x, leaf, msg)
					sisters := sig[sistersAt:]
					first, second := sisters[half*j:half*j+half], sisters[half*i:half*i+half]
					kept := bytes.Clone(first)
					copy(first, second)
					copy(second, kept)
					if tree.Verify(root, h, msg, sig) {
						t.Errorf("P8.2: height %d, leaf %d: sisters %d and %d changed", h, leaf, j, i)
					}
				}
			}
		}
	}
}

// TestVerifyShorterWay (P8.2): a way that stops below the root, and one that
// goes on above it, lead to no root of that height.
func TestVerifyShorterWay(t *testing.T) {
	msg, h := []byte("message"), 4
	x := made(t, seeds()[2], h)
	for leaf := range 16 {
		sig := signed(t, x, leaf, msg)
		for level := range h {
			low := wantNode(seeds()[2], level, leaf>>level)
			if tree.Verify(low, h, msg, sig) || tree.Verify(rootOf(x), level, msg, sig[:sistersAt+half*level]) {
				t.Errorf("P8.2: leaf %d, level %d", leaf, level)
			}
			// Such a way is right for the low tree alone, and only under a
			// number that is there.
			lowSig := sig[:sistersAt+half*level]
			if tree.Verify(low, level, msg, lowSig) != (leaf < 1<<level) {
				t.Errorf("P8.2: leaf %d, level %d as a tree of its own", leaf, level)
			}
		}
	}
}

// TestVerifyOtherMessage (P8.2): another message's signature is refused.
func TestVerifyOtherMessage(t *testing.T) {
	h := 2
	x := made(t, seeds()[1], h)
	for i, one := range messages() {
		sig := signed(t, x, i%4, one)
		for _, other := range messages() {
			if tree.Verify(rootOf(x), h, other, sig) != bytes.Equal(one, other) {
				t.Errorf("P8.2: %.9q as %.9q", one, other)
			}
		}
		if tree.Verify(rootOf(x), h, append(bytes.Clone(one), 0), sig) {
			t.Errorf("P8.2: %.9q and one byte more", one)
		}
	}
}

// TestVerifyOtherTree (P8.2): held against another tree's root.
func TestVerifyOtherTree(t *testing.T) {
	msg := []byte("message")
	for h := range 4 {
		for _, one := range seeds() {
			for _, other := range seeds() {
				sig := signed(t, made(t, one, h), 1<<h-1, msg)
				if tree.Verify(rootOf(made(t, other, h)), h, msg, sig) != (one == other) {
					t.Errorf("P8.2: height %d: seeds %x and %x", h, one, other)
				}
			}
		}
	}
}

// TestVerifyAnyBytes (P8.2): bytes of the right size that nobody signed.
func TestVerifyAnyBytes(t *testing.T) {
	for h := range maxHeight + 1 {
		root := rootOf(made(t, seeds()[0], h))
		size := sistersAt + half*h
		for _, sig := range [][]byte{make([]byte, size), bytes.Repeat([]byte{255}, size), pattern(size), withLeaf(pattern(size), 0)} {
			for _, msg := range messages() {
				if tree.Verify(root, h, msg, sig) {
					t.Errorf("P8.2: height %d: %.9x", h, sig)
				}
			}
		}
	}
}

// TestEachLeafVerifies (P8.3): of each height each leaf, with all kinds of
// messages.
func TestEachLeafVerifies(t *testing.T) {
	for h := range maxHeight + 1 {
		x := made(t, seeds()[h%5], h)
		root := rootOf(x)
		for leaf := range x.Leaves() {
			msg := binary.BigEndian.AppendUint32(pattern(int(leaf)%400), leaf)
			if leaf < 64 {
				msg = messages()[int(leaf)%len(messages())]
			}
			sig, e := x.Sign(leaf, msg)
			if e != api.OK || len(sig) != sistersAt+half*h || !tree.Verify(root, h, msg, sig) {
				t.Fatalf("P8.3: height %d, leaf %d: %d bytes, %v", h, leaf, len(sig), e)
			}
			if got, ok := tree.Leaf(sig); got != leaf || !ok {
				t.Fatalf("P8.2: height %d, leaf %d: %d, %v", h, leaf, got, ok)
			}
		}
	}
}

// TestAnyMessageVerifies (P8.3): one leaf, many messages.
func TestAnyMessageVerifies(t *testing.T) {
	x := made(t, seeds()[2], 3)
	for n := range 800 {
		msg := pattern(n)
		if !tree.Verify(rootOf(x), 3, msg, signed(t, x, n%8, msg)) {
			t.Fatalf("P8.3: %d bytes", n)
		}
	}
}

// TestNil (P8.2): no message is the empty one.
func TestNil(t *testing.T) {
	x, empty := made(t, seeds()[2], 1), []byte{}
	sig := signed(t, x, 1, nil)
	if !bytes.Equal(sig, signed(t, x, 1, empty)) {
		t.Error("P8.2: nil is signed")
	}
	if !tree.Verify(rootOf(x), 1, nil, sig) || !tree.Verify(rootOf(x), 1, empty, sig) {
		t.Error("P8.2: nil is verified")
	}
}

// TestLeavesArguments (P8.2): what is handed in, and the room behind it,
// stays as it was, and that room doesn't count.
func TestLeavesArguments(t *testing.T) {
	seed, h := seeds()[2], 2
	x := made(t, seed, h)
	for _, n := range []int{0, 1, 55, 64, 500} {
		room := pattern(n + 700)
		msg := room[:n]
		sig := signed(t, x, 3, msg)
		if !bytes.Equal(sig, wantSign(seed, h, 3, pattern(n))) {
			t.Errorf("P8.2: the room behind %d bytes counts", n)
		}
		sigRoom := append(bytes.Clone(sig), pattern(60)...)
		rootRoom := append(rootOf(x), pattern(60)...)
		if !tree.Verify(rootRoom[:half], h, msg, sigRoom[:len(sig)]) {
			t.Error("P8.2: not verified with room behind all")
		}
		if tree.Verify(rootRoom[:half-1], h, msg, sigRoom[:len(sig)]) || tree.Verify(rootRoom[:half], h, msg, sigRoom[:len(sig)-1]) {
			t.Error("P8.2: the room counts")
		}
		if got, ok := tree.Leaf(sigRoom[:len(sig)]); got != 3 || !ok {
			t.Errorf("P8.2: leaf %d, %v", got, ok)
		}
		if !bytes.Equal(room, pattern(n+700)) || !bytes.Equal(sigRoom, append(bytes.Clone(sig), pattern(60)...)) || !bytes.Equal(rootRoom, append(rootOf(x), pattern(60)...)) {
			t.Error("P8.2: what was handed in changed")
		}
	}
}

// TestNewMemory (P8.1, P8.2): signatures and roots share nothing with each
// other, with the tree or with the message.
func TestNewMemory(t *testing.T) {
	seed, h, msg := seeds()[2], 3, pattern(300)
	x := made(t, seed, h)
	seed[0] = 77
	seed = seeds()[2]
	want, wantRoot := wantSign(seed, h, 5, msg), wantNode(seed, h, 0)
	first, second := signed(t, x, 5, msg), signed(t, x, 5, msg)
	clear(msg)
	clear(first[:cap(first)])
	clear(rootOf(x))
	if !bytes.Equal(second, want) {
		t.Error("P8.2: a signature changed")
	}
	if !bytes.Equal(rootOf(x), wantRoot) || !bytes.Equal(signed(t, x, 5, pattern(300)), want) || !bytes.Equal(signed(t, x, 5, msg), wantSign(seed, h, 5, msg)) {
		t.Error("P8.1: the tree changed")
	}
}

// TestSameAgain (P8.1, P8.2): an answer doesn't hang on calls ahead of it,
// and two trees don't hang on each other.
func TestSameAgain(t *testing.T) {
	h := 2
	x, y := made(t, seeds()[2], h), made(t, seeds()[3], h)
	for range 3 {
		for _, leaf := range []int{3, 0, 2, 1, 0} {
			for _, msg := range messages()[3:6] {
				a, b := signed(t, x, leaf, msg), signed(t, y, leaf, msg)
				if !bytes.Equal(a, wantSign(seeds()[2], h, leaf, msg)) || !bytes.Equal(b, wantSign(seeds()[3], h, leaf, msg)) {
					t.Fatalf("P8.2: leaf %d, message %.9q", leaf, msg)
				}
				if tree.Verify(rootOf(x), h, msg, b) || !tree.Verify(rootOf(x), h, msg, a) || x.Leaves() != 4 {
					t.Fatalf("P8.2: leaf %d, message %.9q", leaf, msg)
				}
			}
		}
	}
}
