// Package hash: SHA-256, whole and shortened: see doc/01-hash.md.
package hash

import "math/bits"

const (
	blockSize  = 64
	lengthSize = 8 // bytes that tell the message's length, at the end of the last block
	roundCount = 64
)

// roundWords: the words that FIPS 180-4 (4.2.2) adds, one a round.
var roundWords = [roundCount]uint32{
	0x428a2f98, 0x71374491, 0xb5c0fbcf, 0xe9b5dba5, 0x3956c25b, 0x59f111f1, 0x923f82a4, 0xab1c5ed5,
	0xd807aa98, 0x12835b01, 0x243185be, 0x550c7dc3, 0x72be5d74, 0x80deb1fe, 0x9bdc06a7, 0xc19bf174,
	0xe49b69c1, 0xefbe4786, 0x0fc19dc6, 0x240ca1cc, 0x2de92c6f, 0x4a7484aa, 0x5cb0a9dc, 0x76f988da,
	0x983e5152, 0xa831c66d, 0xb00327c8, 0xbf597fc7, 0xc6e00bf3, 0xd5a79147, 0x06ca6351, 0x14292967,
	0x27b70a85, 0x2e1b2138, 0x4d2c6dfc, 0x53380d13, 0x650a7354, 0x766a0abb, 0x81c2c92e, 0x92722c85,
	0xa2bfe8a1, 0xa81a664b, 0xc24b8b70, 0xc76c51a3, 0xd192e819, 0xd6990624, 0xf40e3585, 0x106aa070,
	0x19a4c116, 0x1e376c08, 0x2748774c, 0x34b0bcb5, 0x391c0cb3, 0x4ed8aa4a, 0x5b9cca4f, 0x682e6ff3,
	0x748f82ee, 0x78a5636f, 0x84c87814, 0x8cc70208, 0x90befffa, 0xa4506ceb, 0xbef9a3f7, 0xc67178f2,
}

// Sum: the SHA-256 of b.
func Sum(b []byte) [32]byte {
	state := [8]uint32{
		0x6a09e667, 0xbb67ae85, 0x3c6ef372, 0xa54ff53a,
		0x510e527f, 0x9b05688c, 0x1f83d9ab, 0x5be0cd19,
	}
	rest := b
	for len(rest) >= blockSize {
		state = compress(state, rest[:blockSize])
		rest = rest[blockSize:]
	}
	last, end := padded(rest, uint64(len(b)))
	for at := 0; at < end; at += blockSize {
		state = compress(state, last[at:at+blockSize])
	}
	return packed(state)
}

// Short: the first 8 bytes of the Sum of tag and the parts. Each part's
// length stands ahead of it, so that no two lists of parts make one text.
func Short(tag byte, parts ...[]byte) [8]byte {
	// Most texts of the layers above fit here and need no memory of their own.
	text := make([]byte, 0, 2*blockSize)
	text = append(text, tag)
	for _, part := range parts {
		var size [4]byte
		putWord(size[:], uint32(len(part)))
		text = append(text, size[:]...)
		text = append(text, part...)
	}
	sum := Sum(text)
	var short [8]byte
	copy(short[:], sum[:])
	return short
}

// padded: the last block or two of a message of size bytes, whose bytes
// behind its whole blocks are rest; and how many of them count.
func padded(rest []byte, size uint64) ([2 * blockSize]byte, int) {
	var last [2 * blockSize]byte
	copy(last[:], rest)
	last[len(rest)] = 0x80
	end := blockSize
	if len(rest)+1+lengthSize > blockSize {
		end = 2 * blockSize
	}
	bitCount := size * 8
	putWord(last[end-8:], uint32(bitCount>>32))
	putWord(last[end-4:], uint32(bitCount))
	return last, end
}

// compress: the state behind one more block.
func compress(state [8]uint32, block []byte) [8]uint32 {
	words := schedule(block)
	a, b, c, d := state[0], state[1], state[2], state[3]
	e, f, g, h := state[4], state[5], state[6], state[7]
	for i := range roundCount {
		mixE := bits.RotateLeft32(e, -6) ^ bits.RotateLeft32(e, -11) ^ bits.RotateLeft32(e, -25)
		choice := e&f ^ ^e&g
		first := h + mixE + choice + roundWords[i] + words[i]
		mixA := bits.RotateLeft32(a, -2) ^ bits.RotateLeft32(a, -13) ^ bits.RotateLeft32(a, -22)
		majority := a&b ^ a&c ^ b&c
		h, g, f, e = g, f, e, d+first
		d, c, b, a = c, b, a, first+mixA+majority
	}
	return [8]uint32{
		state[0] + a, state[1] + b, state[2] + c, state[3] + d,
		state[4] + e, state[5] + f, state[6] + g, state[7] + h,
	}
}

// schedule: the words that a block adds, one a round.
func schedule(block []byte) [roundCount]uint32 {
	var words [roundCount]uint32
	for i := range blockSize / 4 {
		words[i] = uint32(block[4*i])<<24 | uint32(block[4*i+1])<<16 |
			uint32(block[4*i+2])<<8 | uint32(block[4*i+3])
	}
	for i := blockSize / 4; i < roundCount; i++ {
		far, near := words[i-15], words[i-2]
		mixFar := bits.RotateLeft32(far, -7) ^ bits.RotateLeft32(far, -18) ^ far>>3
		mixNear := bits.RotateLeft32(near, -17) ^ bits.RotateLeft32(near, -19) ^ near>>10
		words[i] = words[i-16] + mixFar + words[i-7] + mixNear
	}
	return words
}

// packed: the state's words as bytes.
func packed(state [8]uint32) [32]byte {
	var sum [32]byte
	for i, word := range state {
		putWord(sum[4*i:], word)
	}
	return sum
}

// putWord writes the word over the first four bytes of to, the highest first.
func putWord(to []byte, word uint32) {
	to[0] = byte(word >> 24)
	to[1] = byte(word >> 16)
	to[2] = byte(word >> 8)
	to[3] = byte(word)
}
