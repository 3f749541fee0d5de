package vec

import (
	"cmp"
	"math"
	"math/bits"

	"quiver/api"
)

// fraction is a times b divided by c, which is not 0, rounded down. The product may be beyond the numbers; only what comes of it must not.
func fraction(a, b, c int64) (int64, bool) {
	below := (a < 0) != (b < 0) != (c < 0)
	high, low := bits.Mul64(size(a), size(b))
	if high >= size(c) {
		return 0, false
	}
	n, rest := bits.Div64(high, low, size(c))
	var further uint64
	if below && rest > 0 {
		further = 1
	}
	if n > math.MaxInt64-further {
		return 0, false
	}
	if below {
		return -int64(n + further), true
	}
	return int64(n), true
}

// size is how far n is from 0.
func size(n int64) uint64 { return uint64(max(n, -n)) }

// sum is a and b, of which none is null, together.
func sum(a, b int64) (int64, bool) {
	n := a + b
	if n == api.Null || (n > a) != (b > 0) {
		return 0, false
	}
	return n, true
}

func difference(a, b int64) (int64, bool) { return sum(a, -b) }

// product is two numbers times each other, divided by what is told.
func product(divisor int64) function {
	return func(a, b int64) (int64, bool) { return fraction(a, b, divisor) }
}

// quotient is a number times what is told, divided by another one.
func quotient(times int64) function {
	return func(a, b int64) (int64, bool) {
		if b == 0 {
			return api.Null, true
		}
		return fraction(a, times, b)
	}
}

// remainder is what of a the quotient of a and b, which is rounded down, leaves.
func remainder(a, b int64) (int64, bool) {
	if b == 0 {
		return api.Null, true
	}
	rest := a % b
	if rest != 0 && (rest < 0) != (b < 0) {
		rest += b
	}
	return rest, true
}

// toDec is the dec of an int.
func toDec(n int64) (int64, bool) {
	if n == api.Null {
		return n, true
	}
	return fraction(n, api.Scale, 1)
}

// toInt is the int of a dec.
func toInt(n int64) (int64, bool) {
	if n == api.Null {
		return n, true
	}
	return fraction(n, 1, api.Scale)
}

// firstToDec is f of an int, as a dec, and a dec.
func firstToDec(f function) function {
	return func(a, b int64) (int64, bool) {
		dec, fits := toDec(a)
		if !fits {
			return 0, false
		}
		return f(dec, b)
	}
}

// secondToDec is f of a dec and an int, as a dec.
func secondToDec(f function) function {
	return func(a, b int64) (int64, bool) {
		dec, fits := toDec(b)
		if !fits {
			return 0, false
		}
		return f(a, dec)
	}
}

// intByDec is how an int stands to a dec: below it, at it, above it, by what they stand for.
func intByDec(n, dec int64) int {
	scaled, fits := toDec(n)
	switch {
	case dec == api.Null:
		return cmp.Compare(n, dec)
	case !fits:
		return cmp.Compare(n, 0) // n is above all decs, or below all that are not null
	}
	return cmp.Compare(scaled, dec)
}

// decByInt is how a dec stands to an int.
func decByInt(dec, n int64) int { return -intByDec(n, dec) }
