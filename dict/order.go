package dict

import (
	"cmp"
	"slices"

	"quiver/agg"
	"quiver/api"
	"quiver/value"
	"quiver/vec"
)

// Unique is the dictionary without the places whose keys match one ahead of them: P10.5.
func Unique(d api.V) (api.V, api.Errno) {
	k, v, e := open(d)
	if e != api.OK {
		return api.V{}, e
	}
	var at []int64
	for _, group := range unlike(k) {
		at = append(at, int64(group[0]))
	}
	return picked(k, v, at)
}

// unlike is the places of each unlike element of a sequence, rising, in the order in which they come first.
func unlike(v api.V) [][]int {
	groups := alike(elements(v))
	slices.SortFunc(groups, func(a, b []int) int { return cmp.Compare(a[0], b[0]) })
	return groups
}

// picked is the dictionary of what keys and values have at these places.
func picked(k, v api.V, at []int64) (api.V, api.Errno) {
	k, _ = vec.Index(k, at...)
	v, _ = vec.Index(v, at...)
	return made(k, v)
}

// SortKeys is the dictionary in the order of its keys: P10.6.
func SortKeys(d api.V, down bool) (api.V, api.Errno) {
	k, v, e := open(d)
	if e != api.OK {
		return api.V{}, e
	}
	return sorted(k, v, k, down)
}

// SortValues is the dictionary in the order of its values: P10.6.
func SortValues(d api.V, down bool) (api.V, api.Errno) {
	k, v, e := open(d)
	if e != api.OK {
		return api.V{}, e
	}
	return sorted(k, v, v, down)
}

// sorted is the dictionary of keys and values in the order of one of both.
func sorted(k, v, by api.V, down bool) (api.V, api.Errno) {
	at, _ := agg.Grade(by, down)
	return picked(k, v, at.N)
}

// Group is the dictionary of the unlike elements of a sequence and the places of each: P10.6.
func Group(v api.V) (api.V, api.Errno) {
	if !isSequence(v) {
		return api.V{}, api.ErrType
	}
	var at []int64
	var places []api.V
	for _, group := range unlike(v) {
		at = append(at, int64(group[0]))
		l := make([]int64, len(group))
		for i, place := range group {
			l[i] = int64(place)
		}
		places = append(places, value.Int(l...))
	}
	k, _ := vec.Index(v, at...)
	return made(k, value.Of(places...))
}
