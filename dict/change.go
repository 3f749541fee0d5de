package dict

import (
	"slices"

	"quiver/agg"
	"quiver/api"
	"quiver/value"
	"quiver/vec"
)

// Append is a vector or a list with one element more: P10.2.
func Append(v, x api.V) (api.V, api.Errno) {
	if !isSequence(v) || x.T == api.KNil {
		return api.V{}, api.ErrType
	}
	l := value.Of(append(elements(v), x)...)
	if value.Count(l) > api.MaxCount || value.Depth(l) > api.MaxDepth {
		return api.V{}, api.ErrMany
	}
	return l, api.OK
}

// Put is the dictionary in which a key has a value: P10.4.
func Put(d, x, y api.V) (api.V, api.Errno) {
	k, v, e := open(d)
	if e != api.OK {
		return api.V{}, e
	}
	if x.T == api.KNil || y.T == api.KNil {
		return api.V{}, api.ErrType
	}
	at, _ := agg.Find(k, x)
	if at < value.Count(k) {
		l := elements(v)
		l[at] = y
		return made(value.Clone(k), value.Of(l...))
	}
	if k, e = Append(k, x); e != api.OK {
		return api.V{}, e
	}
	if v, e = Append(v, y); e != api.OK {
		return api.V{}, e
	}
	return made(k, v)
}

// Drop is the dictionary without the first place of each of x, one after the other: P10.4.
func Drop(d api.V, x ...api.V) (api.V, api.Errno) {
	k, v, e := open(d)
	if e != api.OK {
		return api.V{}, e
	}
	gone := taken(k, x)
	if len(gone) == 0 {
		return Make(k, v)
	}
	left, last := without(value.Count(k), gone), gone[len(gone)-1]
	return made(rest(k, left, last), rest(v, left, last))
}

// taken is the places that each of x takes away, in the order of x: of those that match the first one takes the first place, the next one the next.
func taken(k api.V, x []api.V) []int {
	at := slices.Repeat([]int{-1}, len(x))
	groups, places := sought(k, x)
	for i, group := range groups {
		for n, place := range places[i][:min(len(group), len(places[i]))] {
			at[group[n]] = place
		}
	}
	return slices.DeleteFunc(at, func(place int) bool { return place < 0 })
}

// without is all places below count but those that are gone.
func without(count int, gone []int) []int64 {
	away := make([]bool, count)
	for _, place := range gone {
		away[place] = true
	}
	var left []int64
	for i, yes := range away {
		if !yes {
			left = append(left, int64(i))
		}
	}
	return left
}

// rest is the elements of a sequence that are left, where the one at the place last is the last one to go. Where none is left, that one stood alone ahead: a list of an atom was the vector of it then, and stays one.
func rest(l api.V, left []int64, last int) api.V {
	if len(left) == 0 {
		l, _ = vec.Index(l, int64(last))
	}
	l, _ = vec.Index(l, left...)
	return l
}

// Join is the first dictionary, into which those behind it are put: P10.5.
func Join(l ...api.V) (api.V, api.Errno) {
	for i, d := range l {
		if _, _, e := open(d); e != api.OK {
			// An error of those ahead comes first.
			if _, ahead := Join(l[:i]...); ahead != api.OK {
				return api.V{}, ahead
			}
			return api.V{}, e
		}
	}
	if len(l) == 0 {
		return Make(value.Of(), value.Of())
	}
	return joined(l[0], l[1:])
}

// joined is the dictionary d, into which others are put, all at once: of all keys that match the first place stays, with the last value. Where anything is put in, keys and values are value.Of of their elements then; else they stay as they are.
func joined(d api.V, others []api.V) (api.V, api.Errno) {
	keys, values := elements(d.L[0]), elements(d.L[1])
	own := len(keys)
	for _, other := range others {
		keys = append(keys, elements(other.L[0])...)
		values = append(values, elements(other.L[1])...)
	}
	if len(keys) == own {
		return Make(d.L[0], d.L[1])
	}
	var again []int
	for _, group := range alike(keys) {
		for _, place := range group[1:] {
			if place >= own {
				values[group[0]] = values[place]
				again = append(again, place)
			}
		}
	}
	left := without(len(keys), again)
	return made(of(keys, left), of(values, left))
}

// of is value.Of of what stands at these places.
func of(l []api.V, at []int64) api.V {
	var some []api.V
	for _, place := range at {
		some = append(some, l[place])
	}
	return value.Of(some...)
}
