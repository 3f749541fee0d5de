package verbs

import (
	"slices"

	"quiver/api"
	"quiver/table"
	"quiver/value"
)

// isVector tells whether v is a vector.
func isVector(v api.V) bool { return v.T > api.KList && v.T <= api.KDec }

// isSequence tells whether v is a vector or a list.
func isSequence(v api.V) bool { return v.T == api.KList || isVector(v) }

// isFlat tells whether v is an atom or a vector.
func isFlat(v api.V) bool { return value.IsAtom(v) || isVector(v) }

// isTable tells whether package table takes v for one.
func isTable(v api.V) bool {
	_, e := table.Schema(v)
	return e == api.OK
}

// isPairs tells whether v is a dictionary that is no keyed table.
func isPairs(v api.V) bool { return isTwo(v, isSequence) }

// isKeyed tells whether v is a keyed table.
func isKeyed(v api.V) bool { return isTwo(v, isTable) }

// isTwo tells whether v is a dictionary whose keys and values are so, and of one count.
func isTwo(v api.V, are func(part api.V) bool) bool {
	if v.T != api.KDict || len(v.L) != 2 {
		return false
	}
	return are(v.L[0]) && are(v.L[1]) && value.Count(v.L[0]) == value.Count(v.L[1])
}

// whole is the number of an int atom, and whether v is one.
func whole(v api.V) (int64, bool) {
	if v.T != -api.KInt || len(v.N) != 1 {
		return 0, false
	}
	return v.N[0], true
}

// symbol is the text of a symbol atom, and whether v is one.
func symbol(v api.V) (string, bool) {
	if v.T != -api.KSym || len(v.S) != 1 {
		return "", false
	}
	return v.S[0], true
}

// names is the texts of a symbol or of symbols, in its memory, and whether v is either.
func names(v api.V) ([]string, bool) {
	if v.T != api.KSym && v.T != -api.KSym {
		return nil, false
	}
	return v.S, true
}

// inner is the values of a dictionary that is no keyed table, and all else itself, in its memory.
func inner(v api.V) api.V {
	if isPairs(v) {
		return v.L[1]
	}
	return v
}

// element is what stands at a place of a vector or a list, in its memory.
func element(v api.V, i int) api.V {
	switch v.T {
	case api.KList:
		return v.L[i]
	case api.KSym:
		return api.V{T: -v.T, S: v.S[i : i+1]}
	}
	return api.V{T: -v.T, N: v.N[i : i+1]}
}

// elements are all elements of a vector or a list, and of all else itself, in its memory, but for the slice that they lie in.
func elements(v api.V) []api.V {
	if !isSequence(v) {
		return []api.V{v}
	}
	l := make([]api.V, value.Count(v))
	for i := range l {
		l[i] = element(v, i)
	}
	return l
}

// of is value.Of of values that nobody else has: what becomes a list is not copied once more at each depth.
func of(l []api.V) api.V {
	if slices.ContainsFunc(l, func(x api.V) bool { return !value.IsAtom(x) || x.T != l[0].T }) {
		return api.V{T: api.KList, L: l}
	}
	return value.Of(l...)
}

// numbers is the ints of these places.
func numbers(l []int) api.V {
	v := api.V{T: api.KInt, N: make([]int64, len(l))}
	for i, n := range l {
		v.N[i] = int64(n)
	}
	return v
}

// truth is the bool atom.
func truth(yes bool) api.V { return element(value.Bool(yes), 0) }
