package agg

import (
	"math/bits"

	"quiver/api"
)

// lowest has the 32 bits of a total's lo.
const lowest = 1<<32 - 1

// total is a sum that may be beyond the numbers: hi times 2^32 and lo, which is not below 0 and below 2^32.
type total struct{ hi, lo int64 }

// totalOf is a number as a sum; null adds nothing.
func totalOf(n int64) total {
	if n == api.Null {
		return total{}
	}
	return total{n >> 32, n & lowest}
}

func sumOf(l []int64) total {
	var sum total
	for _, n := range l {
		sum = sum.plus(totalOf(n))
	}
	return sum
}

func (t total) plus(u total) total {
	lo := t.lo + u.lo
	return total{t.hi + u.hi + lo>>32, lo & lowest}
}

// number is the sum, and whether it is a number that is not null.
func (t total) number() (int64, bool) {
	n := t.hi<<32 | t.lo
	if n>>32 != t.hi || n == api.Null {
		return 0, false
	}
	return n, true
}

// over is the sum divided by a count above 0, rounded down.
func (t total) over(count int64) int64 {
	high, low := t.hi>>32, t.hi<<32|t.lo
	// A sum below 0 is turned to -1 less it, and so is what comes of it: that rounds down.
	turn := high >> 63
	divisor := uint64(count)
	// No sum of so many numbers has a high that is not below them; the remainder keeps Div64 from a panic at an Acc that was made by hand.
	n, _ := bits.Div64(uint64(high^turn)%divisor, uint64(low^turn), divisor)
	return int64(n) ^ turn
}

// summed is the type of a sum of elements of the type t.
func summed(t int) int {
	if t == api.KBool {
		return api.KInt
	}
	return t
}
