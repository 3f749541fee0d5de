package value

import (
	"slices"
	"strings"

	"quiver/api"
)

// Check tells whether v is a value: P3.1. The depth is asked once, of the whole, behind whatever else may be wrong in any part.
func Check(v api.V) api.Errno {
	if e := fault(v); e != api.OK {
		return e
	}
	if Depth(v) > api.MaxDepth {
		return api.ErrMany
	}
	return api.OK
}

// fault is the first error of v, and then of its parts, but for the depth.
func fault(v api.V) api.Errno {
	if e := ownFault(v); e != api.OK {
		return e
	}
	for _, part := range v.L {
		if e := fault(part); e != api.OK {
			return e
		}
	}
	return api.OK
}

// ownFault is the first error that v has whatever is in its parts.
func ownFault(v api.V) api.Errno {
	switch {
	case !onlyNamed(v):
		return api.ErrValue
	case tooMany(v):
		return api.ErrMany
	case tooLong(v):
		return api.ErrLong
	case !formed(v):
		return api.ErrValue
	case !level(v):
		return api.ErrLength
	}
	return api.OK
}

// onlyNamed tells whether v is of a type, and has nothing in a field that is none of that type's.
func onlyNamed(v api.V) bool {
	noN, noS, noL := len(v.N) == 0, len(v.S) == 0, len(v.L) == 0
	switch v.T {
	case api.KList, api.KDict:
		return noN && noS
	case api.KTable:
		return noN
	case api.KLambda:
		return noN && noL
	case api.KNil:
		return noN && noS && noL
	}
	return hasNumbers(v.T) && noS && noL || hasSymbols(v.T) && noN && noL
}

func tooMany(v api.V) bool {
	if v.T == api.KTable {
		return len(v.S) > api.MaxColumns || len(v.L) > api.MaxColumns
	}
	return isSequence(v) && Count(v) > api.MaxCount
}

func tooLong(v api.V) bool {
	most := api.MaxSym
	if v.T == api.KLambda {
		most = api.MaxText
	}
	return slices.ContainsFunc(v.S, func(s string) bool { return len(s) > most })
}

// formed tells whether all in v is as its type wants it, so far as that can be told without looking into the parts.
func formed(v api.V) bool {
	if IsAtom(v) && len(v.N)+len(v.S) != 1 {
		return false
	}
	switch v.T {
	case api.KBool, -api.KBool:
		return !slices.ContainsFunc(v.N, func(n int64) bool { return n != 0 && n != 1 })
	case api.KSym, -api.KSym:
		return !slices.ContainsFunc(v.S, hasZero)
	case api.KList:
		return !uniform(v.L) && !slices.ContainsFunc(v.L, isNil)
	case api.KTable:
		return formedNames(v.S) && len(v.L) == len(v.S) && all(v.L, isSequence)
	case api.KDict:
		return len(v.L) == 2 && (all(v.L, isSequence) || all(v.L, isTable))
	case api.KLambda:
		return len(v.S) == 1 && len(v.S[0]) >= 2 && v.S[0][0] == '{' && v.S[0][len(v.S[0])-1] == '}'
	}
	return true
}

// formedNames tells whether these are names of columns: some, none empty, all unlike.
func formedNames(names []string) bool {
	for i, name := range names {
		if name == "" || hasZero(name) || slices.Contains(names[:i], name) {
			return false
		}
	}
	return len(names) > 0
}

func hasZero(s string) bool { return strings.IndexByte(s, 0) >= 0 }

func isNil(v api.V) bool { return v.T == api.KNil }

func isTable(v api.V) bool { return v.T == api.KTable }

func all(l []api.V, is func(api.V) bool) bool {
	return !slices.ContainsFunc(l, func(v api.V) bool { return !is(v) })
}

// level tells whether columns, or keys and values, are of one count.
func level(v api.V) bool {
	if v.T != api.KTable && v.T != api.KDict {
		return true
	}
	count := Count(v)
	return all(v.L, func(part api.V) bool { return Count(part) == count })
}
