package verbs

import (
	"slices"

	"quiver/agg"
	"quiver/api"
	"quiver/value"
	"quiver/vec"
)

// find is the first place of y in a sequence, or, in a vector, of each element of a vector.
func find(x, y api.V) (api.V, api.Errno) {
	if isVector(x) && isVector(y) {
		return numbers(places(x, y)), api.OK
	}
	at, e := agg.Find(x, y)
	return value.Atom(api.KInt, int64(at)), e
}

// among tells whether x is an element of a sequence, or, if both are vectors, of each element of x.
func among(x, y api.V) (api.V, api.Errno) {
	if isVector(x) && isVector(y) {
		return value.Bool(there(x, y)...), api.OK
	}
	at, e := agg.Find(y, x)
	return truth(at < value.Count(y)), e
}

// there tells of each element of x whether it is one of y, two sequences.
func there(x, y api.V) []bool {
	l := make([]bool, value.Count(x))
	for i, place := range places(y, x) {
		l[i] = place < value.Count(y)
	}
	return l
}

// places is the first place in x of each element of y, two sequences; where there is none how many elements x has. The elements of x are put in order once, so that each one of y is found by halving.
func places(x, y api.V) []int {
	grade, _ := agg.Grade(x, false)
	l := make([]int, value.Count(y))
	for i := range l {
		sought := element(y, i)
		at, found := slices.BinarySearchFunc(grade.N, sought, func(place int64, v api.V) int {
			return value.Compare(element(x, int(place)), v)
		})
		l[i] = value.Count(x)
		if found {
			l[i] = int(grade.N[at]) // of equal ones the earliest place stands ahead
		}
	}
	return l
}

// union is the unlike elements of two sequences.
func union(x, y api.V) (api.V, api.Errno) {
	if !isSequence(x) || !isSequence(y) {
		return api.V{}, api.ErrType
	}
	v, e := vec.Join(x, y)
	if e != api.OK {
		return api.V{}, e
	}
	return agg.Distinct(v)
}

// chosen is the elements of x that are, or are not, among those of y.
func chosen(are bool) dyadic {
	return func(x, y api.V) (api.V, api.Errno) {
		if !isSequence(x) || !isSequence(y) {
			return api.V{}, api.ErrType
		}
		var at []int64
		for i, is := range there(x, y) {
			if is == are {
				at = append(at, int64(i))
			}
		}
		return vec.Index(x, at...)
	}
}

// bin is the last place in a vector whose element is not greater than y, or than each element of y.
func bin(x, y api.V) (api.V, api.Errno) {
	if !isVector(x) || y.T != x.T && y.T != -x.T {
		return api.V{}, api.ErrType
	}
	least := leastBehind(x)
	var l []int
	for _, v := range elements(y) {
		// The least ones behind the places do not fall: those that are not greater than v stand ahead of the others.
		above, _ := slices.BinarySearchFunc(least, v, func(place int, v api.V) int {
			if value.Compare(element(x, place), v) > 0 {
				return 1
			}
			return -1
		})
		l = append(l, above-1)
	}
	if value.IsAtom(y) {
		return value.Atom(api.KInt, int64(l[0])), api.OK
	}
	return numbers(l), api.OK
}

// leastBehind is, of each place of a vector, the place of the least element from there on.
func leastBehind(x api.V) []int {
	l := make([]int, value.Count(x))
	for i := len(l) - 1; i >= 0; i-- {
		l[i] = i
		if i+1 < len(l) && value.Compare(element(x, l[i+1]), element(x, i)) < 0 {
			l[i] = l[i+1]
		}
	}
	return l
}
