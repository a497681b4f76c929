package journal

import (
	"bytes"

	"signet/api"
)

// mark: how each head begins.
const mark = "signet12"

// wordSize: the bytes of a count, of a length, and of a Crc.
const wordSize = 4

// A frame is a record that isn't empty. Ahead of it are the count of empty
// records between it and the frame ahead, and its length; behind it is a Crc of
// all that. So an empty record takes no room, and Room is 0 where no byte has any.
const (
	frameAhead = 2 * wordSize
	frameExtra = frameAhead + wordSize
)

// head: how many Commits and Resets there were, in which area the frames are,
// how many of its bytes are theirs, and how many empty records are behind them.
type head struct {
	commits uint64
	area    int
	used    int
	blanks  int
}

// slot: where h belongs: not where the head ahead of it is.
func (h head) slot() int { return int(h.commits % slotCount) }

// bytes: h as a sector of size bytes, with a Crc of all of it at the end.
func (h head) bytes(size int) []byte {
	b := []byte(mark)
	b = appendNumber(b, 8, h.commits)
	b = appendNumber(b, wordSize, uint64(h.area))
	b = appendNumber(b, wordSize, uint64(h.used))
	b = appendNumber(b, wordSize, uint64(h.blanks))
	b = append(b, make([]byte, size-wordSize-len(b))...)
	return appendNumber(b, wordSize, uint64(Crc(b)))
}

// openHead: the head that the sector b is, where areas have so many bytes.
func openHead(b []byte, areaBytes int) head {
	rest := b[len(mark):]
	area, used := number(rest[8:12]), number(rest[12:16])
	if area >= areaCount || used > uint64(areaBytes) {
		panic(api.ErrLogForm)
	}
	h := head{commits: number(rest[:8]), area: int(area), used: int(used), blanks: int(number(rest[16:20]))}
	if !bytes.Equal(b, h.bytes(len(b))) {
		panic(api.ErrLogForm)
	}
	return h
}

// framesSize: how many bytes the frames of l's records have.
func framesSize(l [][]byte) int {
	size := 0
	for _, record := range l {
		if len(record) > 0 {
			size += len(record) + frameExtra
		}
	}
	return size
}

// frames: the frames of l's records, ahead of which there are so many empty
// ones as blanks says; and how many empty ones are behind the last frame then.
func frames(blanks int, l [][]byte) ([]byte, int) {
	out := make([]byte, 0, framesSize(l))
	for _, record := range l {
		if len(record) == 0 {
			blanks++
			continue
		}
		start := len(out)
		out = appendNumber(out, wordSize, uint64(blanks))
		out = appendNumber(out, wordSize, uint64(len(record)))
		out = append(out, record...)
		out = appendNumber(out, wordSize, uint64(Crc(out[start:])))
		blanks = 0
	}
	return out, blanks
}

// openFrames: the records of frames that are all of b, and blanks empty ones.
func openFrames(b []byte, blanks int) [][]byte {
	var l [][]byte
	for len(b) > 0 {
		end := frameEnd(b)
		l = append(l, make([][]byte, number(b[:wordSize]))...)
		l = append(l, bytes.Clone(b[frameAhead:end-wordSize]))
		b = b[end:]
	}
	return append(l, make([][]byte, blanks)...)
}

// frameEnd: where b's first frame ends; a panic, if it isn't whole.
func frameEnd(b []byte) int {
	if len(b) < frameExtra {
		panic(api.ErrLogForm)
	}
	size := number(b[wordSize:frameAhead])
	if size > uint64(len(b)-frameExtra) {
		panic(api.ErrLogForm)
	}
	end := int(size) + frameExtra
	if number(b[end-wordSize:end]) != uint64(Crc(b[:end-wordSize])) {
		panic(api.ErrLogForm)
	}
	return end
}

// appendNumber: b, and behind it n in so many bytes, the greatest first.
func appendNumber(b []byte, count int, n uint64) []byte {
	for i := count - 1; i >= 0; i-- {
		b = append(b, byte(n>>(8*i)))
	}
	return b
}

// number: that of b's bytes, the greatest first.
func number(b []byte) uint64 {
	var n uint64
	for _, x := range b {
		n = n<<8 | uint64(x)
	}
	return n
}
