package vec

import (
	"slices"

	"quiver/api"
	"quiver/value"
)

// Neg is each number turned round: P7.5.
func Neg(v api.V) (api.V, api.Errno) {
	switch kind(v) {
	case api.KBool, api.KInt:
		return mapped(v, api.KInt, negative)
	case api.KDec:
		return mapped(v, api.KDec, negative)
	}
	return api.V{}, api.ErrType
}

// negative is n turned round. Of null it is null, without a rule of its own.
func negative(n int64) (int64, bool) { return -n, true }

// Not tells of each number whether it is 0: P7.5.
func Not(v api.V) (api.V, api.Errno) {
	if !value.Numeric(v) {
		return api.V{}, api.ErrType
	}
	return mapped(v, api.KBool, isZero)
}

func isZero(n int64) (int64, bool) {
	if n == 0 {
		return 1, true
	}
	return 0, true
}

// Cast is the atom or vector of numbers of another type: P7.9.
func Cast(t int, v api.V) (api.V, api.Errno) {
	switch {
	case t < 0 || !value.Numeric(api.V{T: t}):
		return api.V{}, api.ErrArg
	case !value.Numeric(v):
		return api.V{}, api.ErrType
	}
	return mapped(v, t, conversion(kind(v), t))
}

// conversion is what becomes of a number of a type that is made one of another type.
func conversion(from, to int) func(n int64) (int64, bool) {
	switch {
	case to == api.KBool:
		return truth
	case from == api.KDec && to != api.KDec:
		return toInt
	case from != api.KDec && to == api.KDec:
		return toDec
	}
	return func(n int64) (int64, bool) { return n, true }
}

// truth is 1 of what is neither 0 nor null.
func truth(n int64) (int64, bool) {
	if n == 0 || n == api.Null {
		return 0, true
	}
	return 1, true
}

// mapped is the atom or vector, as v is, of the type t, of what f makes of each number.
func mapped(v api.V, t int, f func(n int64) (int64, bool)) (api.V, api.Errno) {
	l := make([]int64, len(v.N))
	for i, n := range v.N {
		made, fits := f(n)
		if !fits {
			return api.V{}, api.ErrOverflow
		}
		l[i] = made
	}
	return like(v, t, l), api.OK
}

// Fill is v with an atom in the place of each null: P7.9.
func Fill(x, v api.V) (api.V, api.Errno) {
	switch t := kind(v); {
	case t == api.KList || !value.IsAtom(x) || kind(x) != t:
		return api.V{}, api.ErrType
	case t == api.KSym:
		return api.V{T: v.T, S: filled(v.S, "", x.S[0])}, api.OK
	}
	return api.V{T: v.T, N: filled(v.N, api.Null, x.N[0])}, api.OK
}

// filled is a list with an element in the place of each that is null.
func filled[E comparable](l []E, null, with E) []E {
	l = slices.Clone(l)
	for i, x := range l {
		if x == null {
			l[i] = with
		}
	}
	return l
}
