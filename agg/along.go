package agg

import (
	"slices"

	"quiver/api"
	"quiver/value"
	"quiver/vec"
)

// Sums is, of each place, the sum of the elements up to it: P8.4.
func Sums(v api.V) (api.V, api.Errno) {
	if !takes(api.AggSum, v.T) {
		return api.V{}, api.ErrType
	}
	l := make([]int64, len(v.N))
	var sum total
	for i, n := range v.N {
		sum = sum.plus(totalOf(n))
		whole, fits := sum.number()
		if !fits {
			return api.V{}, api.ErrOverflow
		}
		l[i] = whole
	}
	return api.V{T: summed(v.T), N: l}, api.OK
}

// Mins is, of each place, the least of the elements up to it: P8.4.
func Mins(v api.V) (api.V, api.Errno) {
	if !takes(api.AggMin, v.T) {
		return api.V{}, api.ErrType
	}
	return leading(v, false), api.OK
}

// Maxs is, of each place, the greatest of the elements up to it: P8.4.
func Maxs(v api.V) (api.V, api.Errno) {
	if !takes(api.AggMax, v.T) {
		return api.V{}, api.ErrType
	}
	return leading(v, true), api.OK
}

// leading is, of each place of a vector, the least (if down, the greatest) of the elements up to it that are not null; null, as long as all are.
func leading(v api.V, down bool) api.V {
	order := orderOf(v, down)
	at := make([]int64, value.Count(v))
	best := -1 // a place at which Index finds null
	for i := range at {
		if !value.IsNull(v, i) && (best < 0 || order(i, best) < 0) {
			best = i
		}
		at[i] = int64(best)
	}
	l, _ := vec.Index(v, at...)
	return l
}

// Deltas is each element less the one ahead of it: P8.4.
func Deltas(v api.V) (api.V, api.Errno) {
	if !takes(api.AggAvg, v.T) {
		return api.V{}, api.ErrType
	}
	behind, _ := vec.Drop(1, v)
	ahead, _ := vec.Drop(-1, v)
	steps, e := vec.Do(api.OpSub, behind, ahead)
	if e != api.OK {
		return api.V{}, e
	}
	first := v.N[:min(len(v.N), 1)]
	if v.T == api.KTime {
		first = make([]int64, len(first)) // a time less none is no int: 0 stands for it
	}
	return api.V{T: steps.T, N: slices.Concat(first, steps.N)}, api.OK
}
