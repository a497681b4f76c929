package onetime_test

import (
	"bytes"
	"crypto/sha256"
	"encoding/binary"
	"encoding/hex"
	"testing"

	"signet/onetime"
)

const (
	bits    = 32
	half    = 8
	pair    = 2 * half
	sigSize = bits * pair
)

// pattern: n bytes of which neighbours, and bytes eight apart, are unlike.
func pattern(n int) []byte {
	b := make([]byte, n)
	for i := range b {
		b[i] = byte(i*37 + i>>3*11 + 5)
	}
	return b
}

func seeds() [][8]byte {
	return [][8]byte{
		{},
		{255, 255, 255, 255, 255, 255, 255, 255},
		{1, 2, 3, 4, 5, 6, 7, 8},
		{128},
		{0, 0, 0, 0, 0, 0, 0, 1},
	}
}

func leaves() []uint32 {
	return []uint32{0, 1, 2, 255, 256, 1023, 65535, 65536, 1 << 24, 0x01020304, 1 << 31, 4294967295}
}

// messages: none, short ones, some thousand bytes; among their digests such
// as have and as haven't the highest and the lowest bit (TestDigestEdges).
func messages() [][]byte {
	all := [][]byte{nil, {}, {0}, {255}, []byte("a"), []byte("abc"), []byte("message"), pattern(63), pattern(64), pattern(5000)}
	for i := range 8 {
		all = append(all, []byte{byte(i), 'm'})
	}
	return all
}

// short: hash.Short in the words of chapter 1, by the library's SHA-256.
func short(tag byte, parts ...[]byte) []byte {
	text := []byte{tag}
	for _, part := range parts {
		text = binary.BigEndian.AppendUint32(text, uint32(len(part)))
		text = append(text, part...)
	}
	sum := sha256.Sum256(text)
	return sum[:half]
}

func wantDigest(msg []byte) uint32 {
	sum := sha256.Sum256(msg)
	return binary.BigEndian.Uint32(sum[:])
}

// digits: the digest's bits, the highest first.
func digits(digest uint32) [bits]int {
	var all [bits]int
	for i := bits - 1; i >= 0; i-- {
		all[i] = int(digest % 2)
		digest /= 2
	}
	return all
}

// wantSecrets: of each bit the secrets of both values.
func wantSecrets(seed [8]byte, leaf uint32) [bits][2][]byte {
	var all [bits][2][]byte
	number := binary.BigEndian.AppendUint32(nil, leaf)
	for i := range all {
		for v := range all[i] {
			all[i][v] = short(1, seed[:], number, []byte{byte(i)}, []byte{byte(v)})
		}
	}
	return all
}

// joined: the Public of such locks.
func joined(locks [bits][2][]byte) [8]byte {
	var all []byte
	for i := range locks {
		all = append(all, locks[i][0]...)
		all = append(all, locks[i][1]...)
	}
	return [8]byte(short(3, all))
}

func wantPublic(seed [8]byte, leaf uint32) [8]byte {
	locks := wantSecrets(seed, leaf)
	for i := range locks {
		for v := range locks[i] {
			locks[i][v] = short(2, locks[i][v])
		}
	}
	return joined(locks)
}

func wantSign(seed [8]byte, leaf uint32, msg []byte) []byte {
	secrets := wantSecrets(seed, leaf)
	var sig []byte
	for i, v := range digits(wantDigest(msg)) {
		sig = append(sig, secrets[i][v]...)
		sig = append(sig, short(2, secrets[i][1-v])...)
	}
	return sig
}

// wantOpen: of a signature of the right size.
func wantOpen(msg, sig []byte) [8]byte {
	var locks [bits][2][]byte
	for i, v := range digits(wantDigest(msg)) {
		locks[i][v] = short(2, sig[pair*i:pair*i+half])
		locks[i][1-v] = sig[pair*i+half : pair*i+pair]
	}
	return joined(locks)
}

// open: what sig, which has the right size, opens to.
func open(t *testing.T, msg, sig []byte) [8]byte {
	t.Helper()
	public, ok := onetime.Open(msg, sig)
	if !ok {
		t.Fatalf("P7.2: a signature of %d bytes isn't opened", len(sig))
	}
	if public != wantOpen(msg, sig) {
		t.Fatalf("P7.2: message %.20q opens to %x", msg, public)
	}
	return public
}

// TestPublicKnown (P7.1): values that another program worked out.
func TestPublicKnown(t *testing.T) {
	rows := []struct {
		seed [8]byte
		leaf uint32
		want string
	}{
		{seeds()[0], 0, "553a79d50355f831"},
		{seeds()[0], 1, "4d130b8c640652a9"},
		{seeds()[0], 255, "59ec1735e72f2f15"},
		{seeds()[0], 256, "40ba2bff84b50877"},
		{seeds()[0], 4294967295, "de5c2a49975e64d1"},
		{seeds()[1], 0, "62052eadd900caf6"},
		{seeds()[1], 1, "384ae78ef3b00a2e"},
		{seeds()[1], 255, "d6b5e6e38734e36b"},
		{seeds()[1], 256, "de3c080d14e8cd19"},
		{seeds()[1], 4294967295, "7239f9ab2624f5a2"},
		{seeds()[2], 0, "28f937b1cd49b943"},
		{seeds()[2], 256, "59273cb84c1ad8c6"},
		{seeds()[2], 0x01020304, "538a6a3f070a446f"},
	}
	for _, row := range rows {
		if got := onetime.Public(row.seed, row.leaf); hex.EncodeToString(got[:]) != row.want {
			t.Errorf("P7.1: seed %x, leaf %d: %x, not %s", row.seed, row.leaf, got, row.want)
		}
	}
}

// TestSignKnown (P7.1): values that another program worked out: the digest,
// the first bit's and the last one's bytes, the hash of them all.
func TestSignKnown(t *testing.T) {
	rows := []struct {
		msg               []byte
		digest            uint32
		first, last, hash string
	}{
		{nil, 0xe3b0c442, "3ebf06f0c0ebceec729da7e478ec4ab7", "e94b1dd24d9d7d7aeaa8aacdbcfe631f", "9097556ebbf61a6282d05d03d9f8be652e5599b6be57903926f4362820438eb1"},
		{[]byte{0}, 0x6e340b9c, "6bbb2f5889136cb0e01d4b0cb5b22058", "e94b1dd24d9d7d7aeaa8aacdbcfe631f", "44c0ff9e871aad394ca58b9168dc3ddb09b1d0f673d2e19aa0741f383bd3e155"},
		{[]byte("a"), 0xca978112, "3ebf06f0c0ebceec729da7e478ec4ab7", "e94b1dd24d9d7d7aeaa8aacdbcfe631f", "3b34480fcbd7bc85ad37114daa758a4603db5e9ae02f83261cba0855c616313f"},
		{[]byte("abc"), 0xba7816bf, "3ebf06f0c0ebceec729da7e478ec4ab7", "e07a6943df5f93fdd5303db548228490", "83a4d2836879051ffffca83beac3a98a26242c89b0bbf4c0e73e8eeeb0be6d06"},
		{bytes.Repeat([]byte("a"), 5000), 0xc526c622, "3ebf06f0c0ebceec729da7e478ec4ab7", "e94b1dd24d9d7d7aeaa8aacdbcfe631f", "1ac060abacc44a5d40708bb07d5c303b1950087fcec1c10c941a19c5fec4821d"},
	}
	for _, row := range rows {
		if got := onetime.Digest(row.msg); got != row.digest {
			t.Errorf("P7.1: %.9q: digest %08x, not %08x", row.msg, got, row.digest)
		}
		sig := onetime.Sign(seeds()[2], 256, row.msg)
		if len(sig) != sigSize {
			t.Fatalf("P7.1: %.9q: %d bytes", row.msg, len(sig))
		}
		sum := sha256.Sum256(sig)
		if hex.EncodeToString(sig[:pair]) != row.first || hex.EncodeToString(sig[sigSize-pair:]) != row.last || hex.EncodeToString(sum[:]) != row.hash {
			t.Errorf("P7.1: %.9q: signed as %x", row.msg, sig)
		}
	}
}

// TestDigest (P7.1): the first four bytes of the hash, the highest first.
func TestDigest(t *testing.T) {
	for _, msg := range messages() {
		if got := onetime.Digest(msg); got != wantDigest(msg) {
			t.Errorf("P7.1: %.20q: %08x", msg, got)
		}
	}
	for n := range 300 {
		if got := onetime.Digest(pattern(n)); got != wantDigest(pattern(n)) {
			t.Errorf("P7.1: %d bytes: %08x", n, got)
		}
	}
}

// TestDigestEdges: the messages that the tests sign have digests of each
// value of each bit, the highest and the lowest among them.
func TestDigestEdges(t *testing.T) {
	var count [bits][2]int
	ends := map[[2]int]int{}
	for _, msg := range messages() {
		all := digits(onetime.Digest(msg))
		for i, v := range all {
			count[i][v]++
		}
		ends[[2]int{all[0], all[bits-1]}]++
	}
	for i := range count {
		if count[i][0] == 0 || count[i][1] == 0 {
			t.Errorf("bit %d has one value alone", i)
		}
	}
	if len(ends) != 4 {
		t.Errorf("highest and lowest bits: %v", ends)
	}
}

// TestPublic (P7.1): all seeds and leaves against the chapter's words.
func TestPublic(t *testing.T) {
	by := map[[8]byte]int{}
	for _, seed := range seeds() {
		for _, leaf := range leaves() {
			got := onetime.Public(seed, leaf)
			if got != wantPublic(seed, leaf) {
				t.Errorf("P7.1: seed %x, leaf %d: %x", seed, leaf, got)
			}
			by[got]++
		}
	}
	if len(by) != len(seeds())*len(leaves()) {
		t.Errorf("P7.1: %d keys of %d seeds and %d leaves", len(by), len(seeds()), len(leaves()))
	}
}

// TestPublicEveryBit (P7.1): each bit of the seed and of the leaf counts.
func TestPublicEveryBit(t *testing.T) {
	seed, leaf := [8]byte(pattern(8)), uint32(0x6b21c4d3)
	by := map[[8]byte]int{onetime.Public(seed, leaf): -1}
	note := func(i int, got, want [8]byte) {
		other, ok := by[got]
		if got != want || ok {
			t.Errorf("P7.1: bit %d: %x (as bit %d: %v)", i, got, other, ok)
		}
		by[got] = i
	}
	for i := range 64 {
		turned := seed
		turned[i/8] ^= 1 << (i % 8)
		note(i, onetime.Public(turned, leaf), wantPublic(turned, leaf))
	}
	for i := range 32 {
		turned := leaf ^ 1<<i
		note(64+i, onetime.Public(seed, turned), wantPublic(seed, turned))
	}
}

// TestSign (P7.1, P7.3): all seeds, leaves and messages: the signature is in
// the chapter's words, and opens to its Public.
func TestSign(t *testing.T) {
	for _, seed := range seeds() {
		for _, leaf := range leaves() {
			public := onetime.Public(seed, leaf)
			for _, msg := range messages() {
				sig := onetime.Sign(seed, leaf, msg)
				if len(sig) != sigSize || !bytes.Equal(sig, wantSign(seed, leaf, msg)) {
					t.Fatalf("P7.1: seed %x, leaf %d, message %.20q: %x", seed, leaf, msg, sig)
				}
				if got, ok := onetime.Open(msg, sig); !ok || got != public {
					t.Fatalf("P7.3: seed %x, leaf %d, message %.20q: %x, %v", seed, leaf, msg, got, ok)
				}
			}
		}
	}
}

// TestSignMany (P7.3): many messages of one key and of many.
func TestSignMany(t *testing.T) {
	seed := [8]byte(pattern(8))
	for n := range 400 {
		msg, leaf := pattern(n), uint32(n/4)
		got, ok := onetime.Open(msg, onetime.Sign(seed, leaf, msg))
		if !ok || got != onetime.Public(seed, leaf) {
			t.Fatalf("P7.3: %d bytes, leaf %d: %x, %v", n, leaf, got, ok)
		}
	}
}

// TestSignTellsOneSecret (P7.1): of each bit the signature has the secret of
// its value and not the other one.
func TestSignTellsOneSecret(t *testing.T) {
	seed, leaf := seeds()[2], uint32(255)
	secrets := wantSecrets(seed, leaf)
	for _, msg := range messages() {
		sig := onetime.Sign(seed, leaf, msg)
		for i, v := range digits(wantDigest(msg)) {
			if !bytes.Contains(sig, secrets[i][v]) || bytes.Contains(sig, secrets[i][1-v]) {
				t.Errorf("P7.1: message %.20q, bit %d", msg, i)
			}
		}
	}
}

// TestOpenSizes (P7.2): false and no key, unless there are 512 bytes.
func TestOpenSizes(t *testing.T) {
	msg := []byte("message")
	long := append(onetime.Sign(seeds()[2], 1, msg), pattern(sigSize)...)
	sizes := []int{0, 1, half, pair, sigSize / 2, sigSize - pair, sigSize - half, sigSize - 1, sigSize + 1, sigSize + half, sigSize + pair, 2 * sigSize}
	for _, n := range sizes {
		if got, ok := onetime.Open(msg, long[:n]); ok || got != [8]byte{} {
			t.Errorf("P7.2: %d bytes: %x, %v", n, got, ok)
		}
	}
	for _, m := range [][]byte{nil, {}, msg} {
		for _, sig := range [][]byte{nil, {}} {
			if got, ok := onetime.Open(m, sig); ok || got != [8]byte{} {
				t.Errorf("P7.2: no signature: %x, %v", got, ok)
			}
		}
	}
	if got := open(t, msg, long[:sigSize]); got != onetime.Public(seeds()[2], 1) {
		t.Errorf("P7.3: %x", got)
	}
}

// TestOpenAnyBytes (P7.2): any 512 bytes come to some key.
func TestOpenAnyBytes(t *testing.T) {
	for _, msg := range messages() {
		for _, sig := range [][]byte{make([]byte, sigSize), bytes.Repeat([]byte{255}, sigSize), pattern(sigSize)} {
			open(t, msg, sig)
		}
	}
}

// TestOpenTurned (P7.2): each byte counts, of what is told as secrets and of
// the locks, and each turned one leads to a key of its own.
func TestOpenTurned(t *testing.T) {
	seed, leaf, msg := seeds()[2], uint32(256), []byte("message")
	sig := onetime.Sign(seed, leaf, msg)
	by := map[[8]byte]int{onetime.Public(seed, leaf): -1}
	for i := range sig {
		for _, turn := range []byte{1, 128} {
			sig[i] ^= turn
			got := open(t, msg, sig)
			if other, ok := by[got]; ok {
				t.Errorf("P7.2: byte %d by %d opens as byte %d does", i, turn, other)
			}
			by[got] = i
			sig[i] ^= turn
		}
	}
}

// TestOpenSwapped (P7.2): a secret and a lock that changed their places, and
// bits that did.
func TestOpenSwapped(t *testing.T) {
	seed, leaf, msg := seeds()[2], uint32(9), []byte("message")
	public := onetime.Public(seed, leaf)
	for i := range bits {
		sig := onetime.Sign(seed, leaf, msg)
		at := sig[pair*i : pair*i+pair]
		copy(at, append(bytes.Clone(at[half:]), at[:half]...))
		if open(t, msg, sig) == public {
			t.Errorf("P7.2: halves of bit %d", i)
		}
	}
	sig := onetime.Sign(seed, leaf, msg)
	moved := append(bytes.Clone(sig[pair:]), sig[:pair]...)
	if open(t, msg, moved) == public {
		t.Error("P7.2: bits that moved on by one")
	}
}

// TestOpenOtherMessage (P7.2): a signature opened with another message leads
// elsewhere.
func TestOpenOtherMessage(t *testing.T) {
	seed, leaf := seeds()[1], uint32(4294967295)
	public := onetime.Public(seed, leaf)
	for _, signed := range messages() {
		sig := onetime.Sign(seed, leaf, signed)
		for _, other := range messages() {
			same := bytes.Equal(signed, other)
			if (open(t, other, sig) == public) != same {
				t.Errorf("P7.2: %.20q opened with %.20q", signed, other)
			}
		}
	}
}

// numbered: the message of that number.
func numbered(n int) []byte { return binary.BigEndian.AppendUint32(nil, uint32(n)) }

// TestOpenNearMessage (P7.2): messages whose digests are the same but for one
// bit lead elsewhere, each of them; such whose digests are the same don't.
func TestOpenNearMessage(t *testing.T) {
	seed, leaf := seeds()[2], uint32(1)
	public := onetime.Public(seed, leaf)
	by := map[uint32]int{}
	var near [bits]int
	alike := 0
	for n := range 300000 {
		digest := wantDigest(numbered(n))
		for i := range bits {
			if first, ok := by[digest^1<<(bits-1-i)]; ok {
				near[i]++
				if open(t, numbered(n), onetime.Sign(seed, leaf, numbered(first))) == public {
					t.Errorf("P7.2: messages %d and %d, bit %d", first, n, i)
				}
			}
		}
		if first, ok := by[digest]; ok {
			alike++
			if open(t, numbered(n), onetime.Sign(seed, leaf, numbered(first))) != public {
				t.Errorf("P7.2: messages %d and %d of one digest", first, n)
			}
		}
		by[digest] = n
	}
	if near[0] == 0 || near[bits-1] == 0 || alike == 0 {
		t.Errorf("too few messages: %v, %d", near, alike)
	}
}

// TestOpenOtherKey (P7.2): another seed or leaf signs for another key.
func TestOpenOtherKey(t *testing.T) {
	msg := []byte("message")
	for _, seed := range seeds() {
		for _, leaf := range leaves() {
			public := onetime.Public(seed, leaf)
			for _, other := range leaves() {
				got := open(t, msg, onetime.Sign(seed, other, msg))
				if (got == public) != (other == leaf) {
					t.Errorf("P7.2: leaves %d and %d", leaf, other)
				}
			}
			for _, other := range seeds() {
				got := open(t, msg, onetime.Sign(other, leaf, msg))
				if (got == public) != (other == seed) {
					t.Errorf("P7.2: seeds %x and %x", seed, other)
				}
			}
		}
	}
}

// TestNil (P7.1, P7.2): no message is the empty one.
func TestNil(t *testing.T) {
	seed, empty := seeds()[2], []byte{}
	if onetime.Digest(nil) != onetime.Digest(empty) || onetime.Digest(nil) != 0xe3b0c442 {
		t.Error("P7.1: the digest of nil")
	}
	sig := onetime.Sign(seed, 3, nil)
	if !bytes.Equal(sig, onetime.Sign(seed, 3, empty)) {
		t.Error("P7.1: nil is signed")
	}
	if open(t, nil, sig) != open(t, empty, sig) || open(t, nil, sig) != onetime.Public(seed, 3) {
		t.Error("P7.2: nil is opened")
	}
}

// TestLeavesArguments (P7.1, P7.2): what is handed in, and the room behind
// it, stays as it was, and that room doesn't count.
func TestLeavesArguments(t *testing.T) {
	seed, leaf := seeds()[2], uint32(5)
	for _, n := range []int{0, 1, 55, 64, 3000} {
		room := pattern(n + 600)
		msg := room[:n]
		sig := onetime.Sign(seed, leaf, msg)
		if onetime.Digest(msg) != wantDigest(pattern(n)) || !bytes.Equal(sig, wantSign(seed, leaf, pattern(n))) {
			t.Errorf("P7.1: the room behind %d bytes counts", n)
		}
		sigRoom := append(bytes.Clone(sig), pattern(700)...)
		if got, ok := onetime.Open(msg, sigRoom[:sigSize]); !ok || got != wantPublic(seed, leaf) {
			t.Errorf("P7.2: the room behind %d bytes counts", n)
		}
		if got, ok := onetime.Open(msg, sigRoom[:sigSize-1]); ok || got != [8]byte{} {
			t.Errorf("P7.2: a signature's room counts")
		}
		if !bytes.Equal(room, pattern(n+600)) {
			t.Errorf("P7.1: a message of %d bytes or its room changed", n)
		}
		if !bytes.Equal(sigRoom, append(bytes.Clone(sig), pattern(700)...)) {
			t.Errorf("P7.2: a signature or its room changed")
		}
	}
}

// TestNewMemory (P7.1): signatures share nothing with each other or with the
// message; what was signed may change.
func TestNewMemory(t *testing.T) {
	seed, msg := seeds()[2], pattern(600)
	want := wantSign(seed, 7, msg)
	first, second := onetime.Sign(seed, 7, msg), onetime.Sign(seed, 7, msg)
	clear(msg)
	clear(first[:cap(first)])
	if !bytes.Equal(second, want) {
		t.Error("P7.1: a signature changed")
	}
	if !bytes.Equal(onetime.Sign(seed, 7, pattern(600)), want) || !bytes.Equal(onetime.Sign(seed, 7, msg), wantSign(seed, 7, msg)) {
		t.Error("P7.1: old bytes were kept")
	}
	if open(t, pattern(600), second) != wantPublic(seed, 7) {
		t.Error("P7.3: not opened")
	}
}

// TestSameAgain (P7.1, P7.2): an answer doesn't hang on calls ahead of it.
func TestSameAgain(t *testing.T) {
	for range 2 {
		for _, leaf := range leaves() {
			for _, msg := range messages()[:6] {
				sig := onetime.Sign(seeds()[2], leaf, msg)
				if !bytes.Equal(sig, wantSign(seeds()[2], leaf, msg)) || open(t, msg, sig) != wantPublic(seeds()[2], leaf) {
					t.Fatalf("P7.1: leaf %d, message %.20q", leaf, msg)
				}
			}
		}
	}
}
