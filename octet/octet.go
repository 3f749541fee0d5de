// Package octet is layer 1: numbers and texts in bytes, each in one form, and frames with a sum.
package octet

import (
	"math/bits"

	"quiver/api"
)

// more is set in every byte of a number but its last one.
const more = 0x80

// lastAt is the place of a number's tenth byte: of 64 bits it has room for one.
const lastAt = 9

// Put lays numbers behind b: P1.1.
func Put(b []byte, l ...uint64) []byte {
	size := 0
	for _, n := range l {
		size += width(n)
	}
	out := grown(b, size)
	for _, n := range l {
		out = appendNum(out, n)
	}
	return out
}

// PutInt lays numbers that may be below 0 behind b: P1.1.
func PutInt(b []byte, l ...int64) []byte {
	size := 0
	for _, n := range l {
		size += width(fold(n))
	}
	out := grown(b, size)
	for _, n := range l {
		out = appendNum(out, fold(n))
	}
	return out
}

// PutText lays texts behind b: P1.1.
func PutText(b []byte, l ...string) []byte {
	size := 0
	for _, s := range l {
		size += width(uint64(len(s))) + len(s)
	}
	out := grown(b, size)
	for _, s := range l {
		out = appendNum(out, uint64(len(s)))
		out = append(out, s...)
	}
	return out
}

// grown is a copy of b with room for size bytes behind it: b's own spare room may be somebody else's.
func grown(b []byte, size int) []byte {
	return append(make([]byte, 0, len(b)+size), b...)
}

// width is how many bytes a number has.
func width(n uint64) int {
	return max(1, (bits.Len64(n)+6)/7)
}

func appendNum(b []byte, n uint64) []byte {
	for n >= more {
		b = append(b, byte(n)|more)
		n >>= 7
	}
	return append(b, byte(n))
}

// fold lays the numbers below 0 between the others: 2n, or -2n - 1.
func fold(n int64) uint64 {
	return uint64(n)<<1 ^ uint64(n>>63)
}

func unfold(u uint64) int64 {
	return int64(u>>1) ^ -int64(u&1)
}

// parseNum reads the number at the beginning of p: it, how many bytes it has, and OK; or 0, 0 and what is wrong with it.
func parseNum(p []byte) (uint64, int, api.Errno) {
	var n uint64
	wrong := api.ErrShort
read:
	for i, c := range p {
		switch {
		case i == lastAt && c > 1:
			wrong = api.ErrWide
			break read
		case c == 0 && i > 0:
			wrong = api.ErrForm
			break read
		}
		n |= uint64(c&^more) << (7 * i)
		if c < more {
			return n, i + 1, api.OK
		}
	}
	return 0, 0, wrong
}
