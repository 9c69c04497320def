// Package strand is strings of bits: lists of bytes, each 0 or 1. See ../../shared/doc/02-strand.md.
package strand

import "iter"

// Of is the lowest width bits of n, the highest one first; nothing, if width is not from 1 to 64.
func Of(n uint64, width int) []byte {
	if width < 1 || width > 64 {
		return nil
	}
	b := make([]byte, width)
	for at := range b {
		b[at] = byte(n >> (width - 1 - at) & 1)
	}
	return b
}

// Number is the number of these bits, the first one the highest; of more than 64 the last 64 count.
func Number(b []byte) uint64 {
	n := uint64(0)
	for _, one := range places(b) {
		n = n<<1 | uint64(one)
	}
	return n
}

// Clean is the string with each byte 0 or 1.
func Clean(b []byte) []byte {
	clean := make([]byte, len(b))
	for at, one := range places(b) {
		clean[at] = one
	}
	return clean
}

// Flip is the clean string with the other bit at a place, if there is such a place.
func Flip(b []byte, at int) []byte {
	flipped := Clean(b)
	if at >= 0 && at < len(flipped) {
		flipped[at] ^= 1
	}
	return flipped
}

// And is what one hears where all put their bits on one wire: as long as the shortest one, and 1 where all are 1.
func And(l ...[]byte) []byte {
	heard := make([]byte, shortest(l))
	for at := range heard {
		heard[at] = 1
	}
	for _, b := range l {
		for at, one := range places(b[:len(heard)]) {
			heard[at] &= one
		}
	}
	return heard
}

// Run is how many alike bits stand one behind the other at most.
func Run(b []byte) int {
	most, now := 0, 0
	last := byte(0)
	for _, one := range places(b) {
		if one != last {
			now = 0
		}
		last = one
		now++
		most = max(most, now)
	}
	return most
}

// Same is whether there are as many bits, each alike.
func Same(a, b []byte) bool {
	if len(a) != len(b) {
		return false
	}
	for at, one := range places(a) {
		if one != bit(b[at]) {
			return false
		}
	}
	return true
}

// Pack is eight bits in each byte, the first one the highest, noughts behind the last one.
func Pack(b []byte) []byte {
	packed := make([]byte, (len(b)+7)/8)
	for at, one := range places(b) {
		packed[at/8] |= one << (7 - at%8)
	}
	return packed
}

// Unpack is the first n bits of these bytes; nothing, if n is below 0, or there are not so many.
func Unpack(b []byte, n int) []byte {
	if n < 0 || n > 8*len(b) {
		return nil
	}
	bits := make([]byte, n)
	for at := range bits {
		bits[at] = b[at/8] >> (7 - at%8) & 1
	}
	return bits
}

// places yields each bit with its place: whoever goes through a string by it never meets a byte beside 0 and 1.
func places(b []byte) iter.Seq2[int, byte] {
	return func(yield func(int, byte) bool) {
		for at, v := range b {
			if !yield(at, bit(v)) {
				return
			}
		}
	}
}

func bit(v byte) byte {
	if v == 0 {
		return 0
	}
	return 1
}

// shortest is how long the shortest string is, 0 if there is none.
func shortest(l [][]byte) int {
	if len(l) == 0 {
		return 0
	}
	least := len(l[0])
	for _, b := range l {
		least = min(least, len(b))
	}
	return least
}
