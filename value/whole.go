package value

import (
	"cmp"
	"slices"

	"quiver/api"
)

// Match tells whether they are the same value: P3.7.
func Match(a, b api.V) bool {
	return a.T == b.T && slices.Equal(a.N, b.N) && slices.Equal(a.S, b.S) && slices.EqualFunc(a.L, b.L, Match)
}

// Compare is an order of all values: P3.8. Of one rank an atom has the lesser T, and of one T the fields that are not named are empty: so one field behind the other tells it for all kinds.
func Compare(a, b api.V) int {
	if c := cmp.Compare(rank(a.T), rank(b.T)); c != 0 {
		return c
	}
	if c := cmp.Compare(a.T, b.T); c != 0 {
		return c
	}
	if c := slices.Compare(a.N, b.N); c != 0 {
		return c
	}
	if c := slices.Compare(a.S, b.S); c != 0 {
		return c
	}
	return slices.CompareFunc(a.L, b.L, Compare)
}

// rank is where values of a type stand in the order.
func rank(t int) int {
	switch t {
	case api.KNil:
		return 0
	case api.KBool, -api.KBool:
		return 1
	case api.KInt, -api.KInt:
		return 2
	case api.KTime, -api.KTime:
		return 3
	case api.KDec, -api.KDec:
		return 4
	case api.KSym, -api.KSym:
		return 5
	case api.KList:
		return 6
	case api.KDict:
		return 7
	case api.KTable:
		return 8
	}
	return 9
}

// Clone is the same value in memory of its own: P3.9.
func Clone(v api.V) api.V {
	return api.V{T: v.T, N: slices.Clone(v.N), S: slices.Clone(v.S), L: cloneAll(v.L)}
}

func cloneAll(l []api.V) []api.V {
	if len(l) == 0 {
		return nil
	}
	clones := make([]api.V, len(l))
	for i, v := range l {
		clones[i] = Clone(v)
	}
	return clones
}

// Depth: P3.9.
func Depth(v api.V) int {
	deepest := 0
	for _, part := range v.L {
		deepest = max(deepest, Depth(part))
	}
	return 1 + deepest
}

// Size is how many elements of N and S, and parts with itself, there are: P3.9.
func Size(v api.V) int {
	size := 1 + len(v.N) + len(v.S)
	for _, part := range v.L {
		size += Size(part)
	}
	return size
}
