package journal

import (
	"bytes"

	"signet/api"
)

// mark: how each head begins. Its last byte is the form's number: frames of the
// first form told other things, and must not be read as these.
const mark = "journal2"

// wordSize: the bytes of a count, of a length, and of a Crc.
const wordSize = 4

// A frame is a record that isn't empty. Ahead of it are its number among all
// records and its length; behind it is a Crc of all that. A number that no frame
// has is an empty record's: these take no room, and Room is 0 where no byte has any.
const (
	frameAhead = 2 * wordSize
	frameExtra = frameAhead + wordSize
)

// maxRecords: the most records that a journal has. Empty ones take no room, so
// the disk bounds them no more than it bounds what another hand may write of
// them. The frames of the greatest disk are fewer than this.
const maxRecords = 1 << 20

// head: how many Commits and Resets there were, in which area the frames are,
// how many of its bytes are theirs, and how many records there are.
type head struct {
	commits uint64
	area    int
	used    int
	records int
}

// slot: where h belongs: not where the head ahead of it is.
func (h head) slot() int { return int(h.commits % slotCount) }

// bytes: h as a sector of size bytes, with a Crc of all of it at the end.
func (h head) bytes(size int) []byte {
	b := []byte(mark)
	b = appendNumber(b, 8, h.commits)
	b = appendNumber(b, wordSize, uint64(h.area))
	b = appendNumber(b, wordSize, uint64(h.used))
	b = appendNumber(b, wordSize, uint64(h.records))
	b = append(b, make([]byte, size-wordSize-len(b))...)
	return appendNumber(b, wordSize, uint64(Crc(b)))
}

// openHead: the head that the sector b is, where areas have so many bytes.
func openHead(b []byte, areaBytes int) head {
	rest := b[len(mark):]
	area, used, records := number(rest[8:12]), number(rest[12:16]), number(rest[16:20])
	if area >= areaCount || used > uint64(areaBytes) || records > maxRecords {
		panic(api.ErrLogForm)
	}
	h := head{commits: number(rest[:8]), area: int(area), used: int(used), records: int(records)}
	if !bytes.Equal(b, h.bytes(len(b))) {
		panic(api.ErrLogForm)
	}
	return h
}

// framesSize: how many bytes the frames of l's records have.
func framesSize(l [][]byte) int {
	size := 0
	for _, record := range l {
		if len(record) > 0 {
			size += len(record) + frameExtra
		}
	}
	return size
}

// frames: the frames of l's records, of which the first has the number first.
func frames(first int, l [][]byte) []byte {
	out := make([]byte, 0, framesSize(l))
	for i, record := range l {
		if len(record) == 0 {
			continue
		}
		start := len(out)
		out = appendNumber(out, wordSize, uint64(first+i))
		out = appendNumber(out, wordSize, uint64(len(record)))
		out = append(out, record...)
		out = appendNumber(out, wordSize, uint64(Crc(out[start:])))
	}
	return out
}

// openFrames: so many records, of which frames that are all of b have those
// that aren't empty, in order.
func openFrames(b []byte, records int) [][]byte {
	l := make([][]byte, records)
	next := uint64(0)
	for len(b) > 0 {
		end := frameEnd(b)
		place := number(b[:wordSize])
		if place < next || place >= uint64(records) {
			panic(api.ErrLogForm)
		}
		l[place] = bytes.Clone(b[frameAhead : end-wordSize])
		next = place + 1
		b = b[end:]
	}
	return l
}

// frameEnd: where b's first frame ends; a panic, if it isn't whole.
func frameEnd(b []byte) int {
	if len(b) < frameExtra {
		panic(api.ErrLogForm)
	}
	size := number(b[wordSize:frameAhead])
	if size == 0 || size > uint64(len(b)-frameExtra) {
		panic(api.ErrLogForm)
	}
	end := int(size) + frameExtra
	if number(b[end-wordSize:end]) != uint64(Crc(b[:end-wordSize])) {
		panic(api.ErrLogForm)
	}
	return end
}

// appendNumber: b, and behind it n in so many bytes, the greatest first.
func appendNumber(b []byte, count int, n uint64) []byte {
	for i := count - 1; i >= 0; i-- {
		b = append(b, byte(n>>(8*i)))
	}
	return b
}

// number: that of b's bytes, the greatest first.
func number(b []byte) uint64 {
	var n uint64
	for _, x := range b {
		n = n<<8 | uint64(x)
	}
	return n
}
