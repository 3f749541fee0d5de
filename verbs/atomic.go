package verbs

import (
	"slices"

	"quiver/api"
	"quiver/value"
	"quiver/vec"
)

// atomic is f, which is of atoms and vectors, of all that such are in: 16.1.
func atomic(f monadic) monadic {
	var extended monadic
	extended = func(x api.V) (api.V, api.Errno) {
		if isFlat(x) {
			return f(x)
		}
		return through(extended, x)
	}
	return extended
}

// through is x with what f makes of the elements of a list, of the values of a dictionary, of the columns of a table, of the second table of a keyed one.
func through(f monadic, x api.V) (api.V, api.Errno) {
	switch {
	case x.T == api.KList:
		l, e := each(f, x.L)
		return of(l), e
	case isPairs(x), isKeyed(x):
		v, e := f(x.L[1])
		return api.V{T: x.T, L: []api.V{value.Clone(x.L[0]), v}}, e
	case isTable(x):
		l, e := each(f, x.L)
		return api.V{T: x.T, S: slices.Clone(x.S), L: l}, e
	}
	return api.V{}, api.ErrType
}

// each is what f makes of each of l, or the first error.
func each(f monadic, l []api.V) ([]api.V, api.Errno) {
	made := make([]api.V, len(l))
	for i, x := range l {
		var e api.Errno
		if made[i], e = f(x); e != api.OK {
			return nil, e
		}
	}
	return made, api.OK
}

// paired is an operation of two operands, element by element, whatever their elements are in: P16.3.
func paired(op int) dyadic {
	var pair dyadic
	pair = func(x, y api.V) (api.V, api.Errno) {
		switch {
		case isFlat(x) && isFlat(y):
			return vec.Do(op, x, y)
		case x.T == api.KList || y.T == api.KList:
			return alongside(pair, x, y)
		case takes(x, y):
			return through(func(v api.V) (api.V, api.Errno) { return pair(v, y) }, x)
		case takes(y, x):
			return through(func(v api.V) (api.V, api.Errno) { return pair(x, v) }, y)
		}
		return api.V{}, api.ErrType
	}
	return pair
}

// takes tells whether what is in v goes with x: in a dictionary with an atom or vector, in a table with an atom.
func takes(v, x api.V) bool {
	return isPairs(v) && isFlat(x) || isTable(v) && value.IsAtom(x)
}

// alongside is f of each element of one that is a list, and of the other one: its elements, or, if it is no sequence, itself each time.
func alongside(f dyadic, x, y api.V) (api.V, api.Errno) {
	if isSequence(x) && isSequence(y) && value.Count(x) != value.Count(y) {
		return api.V{}, api.ErrLength
	}
	longer := x
	if !isSequence(x) {
		longer = y
	}
	l := make([]api.V, value.Count(longer))
	for i := range l {
		var e api.Errno
		if l[i], e = f(beside(x, i), beside(y, i)); e != api.OK {
			return api.V{}, e
		}
	}
	return of(l), api.OK
}

// beside is what of v goes with the element at a place of a list.
func beside(v api.V, i int) api.V {
	if isSequence(v) {
		return element(v, i)
	}
	return v
}

// fill is y with the atom x in the place of nulls: 16.2, ^.
func fill(x, y api.V) (api.V, api.Errno) {
	if value.IsAtom(x) && goesThrough(y) {
		return through(filler(x), y)
	}
	return vec.Fill(x, y)
}

// goesThrough tells whether nulls are looked for in what is in v.
func goesThrough(v api.V) bool {
	return v.T == api.KList || isPairs(v) || isTable(v)
}

// filler puts the atom x in the place of nulls of its own type, and leaves all that is of none.
func filler(x api.V) monadic {
	var filled monadic
	filled = func(v api.V) (api.V, api.Errno) {
		switch {
		case v.T == x.T || v.T == -x.T:
			return vec.Fill(x, v)
		case goesThrough(v):
			return through(filled, v)
		}
		return value.Clone(v), api.OK
	}
	return filled
}
