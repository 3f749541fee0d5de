package verbs

import (
	"slices"

	"quiver/api"
	"quiver/value"
	"quiver/vec"
)

// cut is a sequence in pieces: of so many elements each, or from each of these places on.
func cut(x, y api.V) (api.V, api.Errno) {
	if !isSequence(y) {
		return api.V{}, api.ErrType
	}
	count := int64(value.Count(y))
	at, e := edges(x, count)
	if e != api.OK {
		return api.V{}, e
	}
	l := make([]api.V, len(at)-1)
	for i := range l {
		l[i], _ = vec.Index(y, span(at[i], at[i+1])...)
	}
	return of(l), api.OK
}

// edges is where the pieces of so many elements begin, and, behind these, where the last one ends.
func edges(x api.V, count int64) ([]int64, api.Errno) {
	n, is := whole(x)
	switch {
	case is && n <= 0:
		return nil, api.ErrArg
	case is:
		return append(steps(n, count), count), api.OK
	case x.T != api.KInt:
		return nil, api.ErrType
	}
	at := append(slices.Clone(x.N), count)
	if at[0] < 0 || !slices.IsSorted(at) {
		return nil, api.ErrArg
	}
	return at, api.OK
}

// steps is the places below count, from 0 on, each n behind the one ahead of it.
func steps(n, count int64) []int64 {
	var l []int64
	for at := int64(0); at < count; at += n {
		l = append(l, at)
	}
	return l
}

// span is the places from one to another one.
func span(begin, end int64) []int64 {
	l := make([]int64, end-begin)
	for i := range l {
		l[i] = begin + int64(i)
	}
	return l
}
