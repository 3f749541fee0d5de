package vec

import (
	"slices"

	"quiver/api"
	"quiver/value"
)

// Til is the ints ahead of n, from 0 on: P7.6.
func Til(n int64) (api.V, api.Errno) {
	switch {
	case n < 0:
		return api.V{}, api.ErrArg
	case n > api.MaxCount:
		return api.V{}, api.ErrMany
	}
	return api.V{T: api.KInt, N: row(0, n)}, api.OK
}

// row is the numbers from first on, ahead of end.
func row(first, end int64) []int64 {
	l := make([]int64, end-first)
	for i := range l {
		l[i] = first + int64(i)
	}
	return l
}

// Where is each place as often as its element says: P7.6.
func Where(v api.V) (api.V, api.Errno) {
	if v.T != api.KBool && v.T != api.KInt {
		return api.V{}, api.ErrType
	}
	if slices.ContainsFunc(v.N, func(n int64) bool { return n < 0 }) {
		return api.V{}, api.ErrArg
	}
	var places []int64
	for i, n := range v.N {
		if n > api.MaxCount-int64(len(places)) {
			return api.V{}, api.ErrMany
		}
		for range n {
			places = append(places, int64(i))
		}
	}
	return api.V{T: api.KInt, N: places}, api.OK
}

// isSequence tells whether v is a vector or a list: of all else the kind is another type.
func isSequence(v api.V) bool { return kind(v) == v.T }

// Reverse is the elements turned round: P7.7.
func Reverse(v api.V) (api.V, api.Errno) {
	at := row(0, int64(value.Count(v)))
	slices.Reverse(at)
	return Index(v, at...)
}

// Take is the first n elements, or the last -n, and as often again as it takes: P7.7.
func Take(n int64, v api.V) (api.V, api.Errno) {
	switch {
	case !isSequence(v):
		return api.V{}, api.ErrType
	case n > api.MaxCount || n < -api.MaxCount:
		return api.V{}, api.ErrMany
	}
	at := row(min(n, 0), max(n, 0))
	for i, place := range at {
		// Of no elements this is null, a place at which there is none.
		at[i], _ = remainder(place, int64(value.Count(v)))
	}
	return Index(v, at...)
}

// Drop is what is left without the first n elements, or without the last -n: P7.7.
func Drop(n int64, v api.V) (api.V, api.Errno) {
	count := int64(value.Count(v))
	first := max(n, 0)
	end := max(count+min(n, 0), first)
	return Index(v, row(first, end)...)
}

// Index is the elements at these places: P7.7.
func Index(v api.V, at ...int64) (api.V, api.Errno) {
	switch {
	case !isSequence(v):
		return api.V{}, api.ErrType
	case v.T == api.KList:
		return value.Of(picked(v.L, value.Empty(v.T), at)...), api.OK
	case v.T == api.KSym:
		return api.V{T: v.T, S: picked(v.S, "", at)}, api.OK
	}
	return api.V{T: v.T, N: picked(v.N, value.Null(v.T).N[0], at)}, api.OK
}

// picked is what a list has at these places, and none where it has nothing.
func picked[E any](l []E, none E, at []int64) []E {
	elements := make([]E, len(at))
	for i, place := range at {
		elements[i] = none
		if place >= 0 && place < int64(len(l)) {
			elements[i] = l[place]
		}
	}
	return elements
}

// Join is the elements of all, one behind the other: P7.8.
func Join(l ...api.V) (api.V, api.Errno) {
	count := 0
	for _, v := range l {
		count += width(v)
	}
	switch {
	case count > api.MaxCount:
		return api.V{}, api.ErrMany
	case slices.ContainsFunc(l, isNil):
		return api.V{}, api.ErrType
	case ofOneKind(l):
		return joined(l), api.OK
	}
	var all []api.V
	for _, v := range l {
		all = append(all, elements(v)...)
	}
	v := value.Of(all...)
	if value.Depth(v) > api.MaxDepth {
		return api.V{}, api.ErrMany
	}
	return v, api.OK
}

func isNil(v api.V) bool { return v.T == api.KNil }

// width is how many elements Join takes of v.
func width(v api.V) int {
	if isSequence(v) {
		return value.Count(v)
	}
	return 1
}

// ofOneKind tells whether there is one at least, and all are atoms and vectors of one type.
func ofOneKind(l []api.V) bool {
	if len(l) == 0 || kind(l[0]) == api.KList {
		return false
	}
	return !slices.ContainsFunc(l, func(v api.V) bool { return kind(v) != kind(l[0]) })
}

// joined is the vector of all elements of atoms and vectors of one type.
func joined(l []api.V) api.V {
	all := api.V{T: kind(l[0])}
	for _, v := range l {
		all.N = append(all.N, v.N...)
		all.S = append(all.S, v.S...)
	}
	return all
}

// elements is what Join takes of v.
func elements(v api.V) []api.V {
	if !isSequence(v) {
		return []api.V{v}
	}
	var l []api.V
	for _, x := range value.Each(v) {
		l = append(l, x)
	}
	return l
}
