package rtype

import (
	"slices"

	"signet/api"
)

// Sizes of a bitmap's parts.
const (
	windowTypes = 256
	windowBytes = windowTypes / 8
	headBytes   = 2 // a window's number, and how many bytes it has
)

// Clean: l's types, rising, each once.
func Clean(l []uint16) []uint16 {
	types := append([]uint16(nil), l...)
	slices.Sort(types)
	return slices.Compact(types)
}

// Bitmap: the bitmap of l's types.
func Bitmap(l []uint16) []byte {
	var out []byte
	types := Clean(l)
	for len(types) > 0 {
		count := firstWindow(types)
		out = appendWindow(out, types[:count])
		types = types[count:]
	}
	return out
}

// firstWindow: how many of the types, which rise, are of the first one's
// window.
func firstWindow(types []uint16) int {
	for i, t := range types {
		if t/windowTypes != types[0]/windowTypes {
			return i
		}
	}
	return len(types)
}

// appendWindow: out, and behind it the window of the types, which rise and
// are all of one.
func appendWindow(out []byte, types []uint16) []byte {
	var bits [windowBytes]byte
	for _, t := range types {
		place := int(t % windowTypes)
		bits[place/8] |= bitOf(place)
	}
	last := types[len(types)-1]
	size := last%windowTypes/8 + 1
	out = append(out, byte(last/windowTypes), byte(size))
	return append(out, bits[:size]...)
}

// Open: the types whose bitmap is b.
func Open(b []byte) ([]uint16, api.Errno) {
	var types []uint16
	least := 0 // the lowest number that the next window may have
	for len(b) > 0 {
		size, ok := openWindow(b, least)
		if !ok {
			return nil, api.ErrBitmap
		}
		window := int(b[0])
		types = appendTypes(types, window, b[headBytes:size])
		least = window + 1
		b = b[size:]
	}
	return types, api.OK
}

// openWindow: how many bytes the window at b's beginning has in all; false,
// if there is none whose number is least or above it.
func openWindow(b []byte, least int) (int, bool) {
	if len(b) < headBytes || int(b[0]) < least {
		return 0, false
	}
	size := int(b[1])
	if size == 0 || size > windowBytes || len(b) < headBytes+size {
		return 0, false
	}
	// A nought at the end would give the same types a second bitmap.
	if b[headBytes+size-1] == 0 {
		return 0, false
	}
	return headBytes + size, true
}

// appendTypes: types, and behind them those that the bits of a window say.
func appendTypes(types []uint16, window int, bits []byte) []uint16 {
	for place := range 8 * len(bits) {
		if bits[place/8]&bitOf(place) != 0 {
			types = append(types, uint16(window*windowTypes+place))
		}
	}
	return types
}

// bitOf: the bit that a place of a window has within its byte.
func bitOf(place int) byte { return 0x80 >> (place % 8) }
