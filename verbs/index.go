package verbs

import (
	"quiver/api"
	"quiver/dict"
	"quiver/keyed"
	"quiver/table"
	"quiver/value"
	"quiver/vec"
)

// Index is x, taken apart by each of at, one after the other: P16.5.
func Index(x api.V, at ...api.V) (api.V, api.Errno) {
	if len(at) == 0 {
		return value.Clone(x), api.OK
	}
	for _, a := range at {
		var e api.Errno
		if x, e = checked(part(x, a)); e != api.OK {
			return api.V{}, e
		}
	}
	return x, api.OK
}

// part is what of x is at a.
func part(x, a api.V) (api.V, api.Errno) {
	switch {
	case a.T == api.KNil:
		return value.Clone(x), api.OK
	case isSequence(x):
		return ofSequence(x, a)
	case isPairs(x):
		return ofPairs(x, a)
	case isTable(x):
		return ofTable(x, a)
	case isKeyed(x):
		return ofKeyed(x, a)
	}
	return api.V{}, api.ErrType
}

// ofSequence is an element, or several, or what is at each one of a list.
func ofSequence(x, a api.V) (api.V, api.Errno) {
	n, is := whole(a)
	switch {
	case is:
		return elementOrNone(x, n), api.OK
	case a.T == api.KInt:
		return vec.Index(x, a.N...)
	case a.T == api.KList:
		l, e := each(func(b api.V) (api.V, api.Errno) { return ofSequence(x, b) }, a.L)
		return of(l), e
	}
	return api.V{}, api.ErrType
}

// elementOrNone is the element at a place of a vector or a list, or what stands for none there.
func elementOrNone(x api.V, at int64) api.V {
	v, _ := vec.Index(x, at)
	return element(v, 0)
}

// ofPairs is the value of a key, or the values of each one of several.
func ofPairs(x, a api.V) (api.V, api.Errno) {
	if !isVector(x.L[0]) || !isVector(a) {
		return dict.Get(x, a)
	}
	v, e := dict.Get(x, elements(a)...)
	if e == api.OK && value.Count(a) == 1 {
		v = value.Of(v) // of one key Get tells its value alone
	}
	return v, e
}

// ofTable is a row, or several, or a column, or several.
func ofTable(x, a api.V) (api.V, api.Errno) {
	if n, is := whole(a); is {
		return row(x, n), api.OK
	}
	if s, is := symbol(a); is {
		return table.Column(x, s)
	}
	switch a.T {
	case api.KInt:
		return rows(x, a)
	case api.KSym:
		return table.Select(x, a.S...)
	}
	return api.V{}, api.ErrType
}

// ofKeyed is what the columns that are no keys have in the row with a key.
func ofKeyed(x, a api.V) (api.V, api.Errno) {
	width := len(x.L[0].S)
	if width == 1 && value.IsAtom(a) || width > 1 && isSequence(a) && value.Count(a) == width {
		return keyed.Get(x, elements(a)...)
	}
	return api.V{}, api.ErrType
}

// row is what a table has at a place, or what stands for none there.
func row(t api.V, at int64) api.V {
	l := make([]api.V, len(t.L))
	for i, column := range t.L {
		l[i] = elementOrNone(column, at)
	}
	return api.V{T: api.KDict, L: []api.V{value.Sym(t.S...), of(l)}}
}

// rows is the table of the rows at these places.
func rows(t, at api.V) (api.V, api.Errno) {
	l := make([]int, len(at.N))
	for i, n := range at.N {
		l[i] = int(n)
	}
	return table.Rows(t, l...)
}

// allRows is the places of all rows.
func allRows(t api.V) api.V {
	at, _ := vec.Til(int64(value.Count(t)))
	return at
}
