package agg

import (
	"cmp"
	"slices"

	"quiver/api"
	"quiver/value"
	"quiver/vec"
)

// isSequence tells whether v is a vector or a list.
func isSequence(v api.V) bool { return takes(api.AggCount, v.T) }

// Distinct is the unlike elements, in the order in which they come first: P8.5.
func Distinct(v api.V) (api.V, api.Errno) {
	if !isSequence(v) {
		return api.V{}, api.ErrType
	}
	order := orderOf(v, false)
	at := graded(v, false)
	var first []int64
	for i, place := range at {
		// Of equal elements the earliest place stands ahead.
		if i == 0 || order(int(at[i-1]), int(place)) != 0 {
			first = append(first, place)
		}
	}
	slices.Sort(first)
	return vec.Index(v, first...)
}

// Grade is the places in the order of their elements: P8.5.
func Grade(v api.V, down bool) (api.V, api.Errno) {
	if !isSequence(v) {
		return api.V{}, api.ErrType
	}
	return api.V{T: api.KInt, N: graded(v, down)}, api.OK
}

// Sort is the elements in their order: P8.5.
func Sort(v api.V, down bool) (api.V, api.Errno) {
	if !isSequence(v) {
		return api.V{}, api.ErrType
	}
	return vec.Index(v, graded(v, down)...)
}

// Find is the first place whose element matches x, or the count: P8.5.
func Find(v, x api.V) (int, api.Errno) {
	if !isSequence(v) {
		return 0, api.ErrType
	}
	for i := range value.Count(v) {
		if value.Match(element(v, i), x) {
			return i, api.OK
		}
	}
	return value.Count(v), api.OK
}

// graded is the places of a vector or a list in the order of their elements; of equal ones the earlier place stands ahead, also from the greatest on.
func graded(v api.V, down bool) []int64 {
	at := make([]int64, value.Count(v))
	for i := range at {
		at[i] = int64(i)
	}
	order := orderOf(v, down)
	slices.SortStableFunc(at, func(i, j int64) int { return order(int(i), int(j)) })
	return at
}

// orderOf tells how the elements at two places of a vector or a list stand to each other, as value.Compare does (if down, turned round), without making atoms of them.
func orderOf(v api.V, down bool) func(i, j int) int {
	if down {
		up := orderOf(v, false)
		return func(i, j int) int { return up(j, i) }
	}
	switch v.T {
	case api.KList:
		return func(i, j int) int { return value.Compare(v.L[i], v.L[j]) }
	case api.KSym:
		return func(i, j int) int { return cmp.Compare(v.S[i], v.S[j]) }
	}
	return func(i, j int) int { return cmp.Compare(v.N[i], v.N[j]) }
}

// element is what stands at a place of a vector or a list. It shares v's memory.
func element(v api.V, i int) api.V {
	switch v.T {
	case api.KList:
		return v.L[i]
	case api.KSym:
		return api.V{T: -v.T, S: v.S[i : i+1]}
	}
	return api.V{T: -v.T, N: v.N[i : i+1]}
}
