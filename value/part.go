package value

import (
	"iter"

	"quiver/api"
)

// IsNull: P3.5.
func IsNull(v api.V, i int) bool {
	switch v.T {
	case api.KInt, api.KTime, api.KDec, -api.KInt, -api.KTime, -api.KDec:
		return i >= 0 && i < len(v.N) && v.N[i] == api.Null
	case api.KSym, -api.KSym:
		return i >= 0 && i < len(v.S) && v.S[i] == ""
	}
	return false
}

// At is what stands at a place: P3.6.
func At(v api.V, i int) (api.V, api.Errno) {
	switch {
	case isTable(v):
		return row(i, v)
	case v.T == api.KDict && len(v.L) == 2 && all(v.L, isTable):
		return row(i, v.L...)
	case v.T == api.KDict && len(v.L) == 2:
		return At(v.L[1], i)
	}
	x, e := element(v, i)
	if e != api.OK {
		return api.V{}, e
	}
	return Clone(x), api.OK
}

// element is what stands at a place of a vector or a list; of all others v itself, at 0. It shares v's memory.
func element(v api.V, i int) (api.V, api.Errno) {
	switch {
	case i < 0 || i >= Count(v):
		return api.V{}, api.ErrRange
	case v.T == api.KList:
		return v.L[i], api.OK
	case v.T == api.KSym:
		return api.V{T: -v.T, S: v.S[i : i+1]}, api.OK
	case v.T > 0 && hasNumbers(v.T):
		return api.V{T: -v.T, N: v.N[i : i+1]}, api.OK
	}
	return v, api.OK
}

// row is what the columns of the tables have at a place, as a dictionary.
func row(i int, tables ...api.V) (api.V, api.Errno) {
	var names []string
	var elements []api.V
	for _, t := range tables {
		names = append(names, t.S...)
		for _, column := range t.L {
			x, e := element(column, i)
			if e != api.OK {
				return api.V{}, e
			}
			elements = append(elements, x)
		}
	}
	return api.V{T: api.KDict, L: []api.V{Sym(names...), Of(elements...)}}, api.OK
}

// Each goes over all places: P3.6. It keeps a copy, for what it tells is what v was at this call.
func Each(v api.V) iter.Seq2[int, api.V] {
	kept := Clone(v)
	return func(yield func(int, api.V) bool) {
		for i := range Count(kept) {
			x, e := At(kept, i)
			if e != api.OK || !yield(i, x) {
				return
			}
		}
	}
}
