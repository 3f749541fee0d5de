package verbs

import (
	"slices"
	"strings"

	"quiver/agg"
	"quiver/api"
	"quiver/dict"
	"quiver/keyed"
	"quiver/table"
	"quiver/text"
	"quiver/value"
	"quiver/vec"
)

// elementary is what the atomic verbs and words with one operand do with an atom or a vector: 16.1.
func elementary() map[string]monadic {
	return map[string]monadic{
		"-": vec.Neg, "neg": vec.Neg,
		"~": vec.Not, "not": vec.Not,
		"^": null, "null": null,
		"%": reciprocal,
		"_": floor,
	}
}

// monads is what the other verbs and words with one operand do: 16.1.
func monads() map[string]monadic {
	return map[string]monadic{
		"*": end(api.AggFirst), "first": end(api.AggFirst), "last": end(api.AggLast),
		"#": count, "count": count,
		"|": reverse, "reverse": reverse,
		"&": where, "where": where,
		"!": til, "til": til,
		"<": grade(false), "iasc": grade(false),
		">": grade(true), "idesc": grade(true),
		"asc": sorted(false), "desc": sorted(true),
		"=": dict.Group, "group": dict.Group,
		"?": distinct, "distinct": distinct,
		",": enlist,
		"@": typeOf, "type": typeOf,
		"$": printed, "string": printed,
		".": values, "values": values,
		"+":   flip,
		"sum": reduced(api.AggSum), "avg": reduced(api.AggAvg), "min": reduced(api.AggMin), "max": reduced(api.AggMax),
		"sums": agg.Sums, "mins": agg.Mins, "maxs": agg.Maxs, "deltas": agg.Deltas,
		"keys": keys, "cols": cols, "key": key, "unkey": unkey,
	}
}

// null tells of each element whether it is null.
func null(x api.V) (api.V, api.Errno) {
	l := make([]bool, max(len(x.N), len(x.S)))
	for i := range l {
		l[i] = value.IsNull(x, i)
	}
	v := value.Bool(l...)
	if value.IsAtom(x) {
		v.T = -v.T
	}
	return v, api.OK
}

// reciprocal is 1 divided by each number.
func reciprocal(x api.V) (api.V, api.Errno) {
	return vec.Do(api.OpDiv, value.Atom(api.KInt, 1), x)
}

// floor is numbers without what is behind the point of a dec.
func floor(x api.V) (api.V, api.Errno) {
	switch {
	case !value.Numeric(x):
		return api.V{}, api.ErrType
	case x.T == api.KDec || x.T == -api.KDec:
		return vec.Cast(api.KInt, x)
	}
	return value.Clone(x), api.OK
}

// reduced is one value of all elements, or of all values of a dictionary.
func reduced(op int) monadic {
	return func(x api.V) (api.V, api.Errno) { return agg.Do(op, inner(x)) }
}

// end is the first, or the last, of the elements, of the values, of the rows; and all else itself.
func end(op int) monadic {
	return func(x api.V) (api.V, api.Errno) {
		switch {
		case isSequence(x) || isPairs(x):
			return agg.Do(op, inner(x))
		case isTable(x) && op == api.AggFirst:
			return row(x, 0), api.OK
		case isTable(x):
			return row(x, int64(value.Count(x))-1), api.OK
		}
		return value.Clone(x), api.OK
	}
}

func count(x api.V) (api.V, api.Errno) {
	return value.Atom(api.KInt, int64(value.Count(x))), api.OK
}

// reverse is the elements, the rows, the pairs turned round; and all else itself.
func reverse(x api.V) (api.V, api.Errno) {
	switch {
	case isSequence(x):
		return vec.Reverse(x)
	case isTable(x):
		at, _ := vec.Reverse(allRows(x))
		return rows(x, at)
	case isPairs(x) || isKeyed(x):
		l, e := each(reverse, x.L)
		return api.V{T: x.T, L: l}, e
	}
	return value.Clone(x), api.OK
}

func where(x api.V) (api.V, api.Errno) {
	at, e := vec.Where(inner(x))
	return keysAt(x, at, e)
}

// grade is the places of elements, or the keys of values, in their order.
func grade(down bool) monadic {
	return func(x api.V) (api.V, api.Errno) {
		at, e := agg.Grade(inner(x), down)
		return keysAt(x, at, e)
	}
}

// keysAt is, of a dictionary, its keys at these places, and of all else the places, if there are any to tell.
func keysAt(x, at api.V, e api.Errno) (api.V, api.Errno) {
	if e != api.OK || !isPairs(x) {
		return at, e
	}
	return vec.Index(x.L[0], at.N...)
}

// sorted is the elements in their order, or the dictionary in that of its values.
func sorted(down bool) monadic {
	return func(x api.V) (api.V, api.Errno) {
		if isPairs(x) {
			return dict.SortValues(x, down)
		}
		return agg.Sort(x, down)
	}
}

// til is the ints ahead of a number, the keys of a dictionary, the names of a table.
func til(x api.V) (api.V, api.Errno) {
	if n, is := whole(x); is {
		return vec.Til(n)
	}
	if isTable(x) {
		return value.Sym(x.S...), api.OK
	}
	return keys(x)
}

// distinct is the unlike elements, or the unlike rows, in the order in which they come first.
func distinct(x api.V) (api.V, api.Errno) {
	if !isTable(x) {
		return agg.Distinct(x)
	}
	// Rows that are the same stand together here, the one that is first in x ahead.
	at, _ := table.Order(x, x.S...)
	at = slices.CompactFunc(at, func(i, j int) bool { return sameRow(x, i, j) })
	slices.Sort(at)
	return table.Rows(x, at...)
}

// sameRow tells whether a table has the same at two places.
func sameRow(t api.V, i, j int) bool {
	return !slices.ContainsFunc(t.L, func(column api.V) bool { return !value.Match(element(column, i), element(column, j)) })
}

// enlist is the sequence of x alone.
func enlist(x api.V) (api.V, api.Errno) {
	if x.T == api.KNil {
		return api.V{}, api.ErrType
	}
	return value.Of(x), api.OK
}

func typeOf(x api.V) (api.V, api.Errno) {
	return value.Atom(api.KInt, int64(x.T)), api.OK
}

// printed is the text of x as a symbol.
func printed(x api.V) (api.V, api.Errno) {
	if _, is := symbol(x); is {
		return value.Clone(x), api.OK
	}
	s, e := text.Print(x)
	switch {
	case e != api.OK:
		return api.V{}, e
	case len(s) > api.MaxSym:
		return api.V{}, api.ErrLong
	case strings.IndexByte(s, 0) >= 0:
		return api.V{}, api.ErrType
	}
	return value.Symbol(s), api.OK
}

// keys is those of a dictionary.
func keys(x api.V) (api.V, api.Errno) {
	if !isPairs(x) && !isKeyed(x) {
		return api.V{}, api.ErrType
	}
	return value.Clone(x.L[0]), api.OK
}

// values is those of a dictionary, or the columns of a table.
func values(x api.V) (api.V, api.Errno) {
	switch {
	case isTable(x):
		return value.Of(x.L...), api.OK
	case isPairs(x) || isKeyed(x):
		return value.Clone(x.L[1]), api.OK
	}
	return api.V{}, api.ErrType
}

// flip is the dictionary of a table's columns, or the table of a dictionary's values.
func flip(x api.V) (api.V, api.Errno) {
	switch {
	case isTable(x):
		return api.V{T: api.KDict, L: []api.V{value.Sym(x.S...), value.Of(x.L...)}}, api.OK
	case isPairs(x) && x.L[0].T == api.KSym && x.L[1].T == api.KList:
		return table.Make(x.L[0].S, x.L[1].L...)
	}
	return api.V{}, api.ErrType
}

// cols is the names of all columns.
func cols(x api.V) (api.V, api.Errno) {
	switch {
	case isTable(x):
		return value.Sym(x.S...), api.OK
	case isKeyed(x):
		return value.Sym(slices.Concat(x.L[0].S, x.L[1].S)...), api.OK
	}
	return api.V{}, api.ErrType
}

// key is the names of the key columns.
func key(x api.V) (api.V, api.Errno) {
	if !isKeyed(x) {
		return api.V{}, api.ErrType
	}
	return value.Sym(x.L[0].S...), api.OK
}

// unkey is the table of all columns.
func unkey(x api.V) (api.V, api.Errno) {
	if isTable(x) {
		return value.Clone(x), api.OK
	}
	return keyed.Unkey(x)
}
