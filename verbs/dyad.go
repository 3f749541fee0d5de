package verbs

import (
	"cmp"

	"quiver/api"
	"quiver/dict"
	"quiver/keyed"
	"quiver/table"
	"quiver/value"
	"quiver/vec"
)

// operations is what the verbs and words do that go element by element with two operands: 16.2.
func operations() map[string]int {
	return map[string]int{
		"+": api.OpAdd, "-": api.OpSub, "*": api.OpMul, "%": api.OpDiv,
		"&": api.OpMin, "|": api.OpMax,
		"<": api.OpLt, ">": api.OpGt, "=": api.OpEq,
		"div": api.OpDiv, "mod": api.OpMod,
	}
}

// dyads is what the other verbs and words with two operands do: 16.2.
func dyads() map[string]dyadic {
	return map[string]dyadic{
		"~": match, ",": join, "!": bang, "^": fill, "#": take, "_": drop, "?": find, "$": cast, ".": apply,
		"@":  func(x, y api.V) (api.V, api.Errno) { return Index(x, y) },
		"in": among, "within": within,
		"xasc": ascending, "xdesc": descending, "xkey": keyedBy,
		"union": union, "except": chosen(false), "inter": chosen(true),
		"cut": cut, "bin": bin,
	}
}

func match(x, y api.V) (api.V, api.Errno) {
	return truth(value.Match(x, y)), api.OK
}

// join is the one behind the other, or put into it.
func join(x, y api.V) (api.V, api.Errno) {
	switch {
	case isPairs(x) && isPairs(y):
		return dict.Join(x, y)
	case isKeyed(x) && (isTable(y) || isPairs(y) || isKeyed(y)):
		return keyed.Upsert(x, y)
	case isTable(x) && (isTable(y) || isPairs(y)):
		return table.Insert(x, y)
	}
	return vec.Join(x, y)
}

// bang makes keyed tables, takes them apart, and makes dictionaries.
func bang(x, y api.V) (api.V, api.Errno) {
	n, is := whole(x)
	switch {
	case is && isTable(y):
		return keyedByFirst(n, y)
	case is && n == 0 && isKeyed(y):
		return keyed.Unkey(y)
	case isTable(x) && isTable(y) && value.Count(x) == value.Count(y):
		return api.V{T: api.KDict, L: []api.V{value.Clone(x), value.Clone(y)}}, api.OK
	}
	return dict.Make(x, y)
}

// keyedByFirst is the keyed table of the first n columns of a table.
func keyedByFirst(n int64, t api.V) (api.V, api.Errno) {
	switch {
	case n < 0 || n >= int64(len(t.S)):
		return api.V{}, api.ErrArg
	case n == 0:
		return value.Clone(t), api.OK
	}
	return keyed.Key(t, t.S[:n]...)
}

// take is so many elements or rows, or these columns.
func take(x, y api.V) (api.V, api.Errno) {
	n, is := whole(x)
	switch {
	case is && isTable(y) && value.Count(y) == 0:
		return value.Clone(y), api.OK
	case is && isTable(y):
		at, e := vec.Take(n, allRows(y))
		if e != api.OK {
			return api.V{}, e
		}
		return rows(y, at)
	case is:
		return vec.Take(n, y)
	}
	return columns(x, y, table.Select)
}

// drop is without so many elements or rows, without these keys or columns.
func drop(x, y api.V) (api.V, api.Errno) {
	n, is := whole(x)
	switch {
	case isPairs(y) && isFlat(x):
		return dict.Drop(y, elements(x)...)
	case is && isTable(y):
		at, _ := vec.Drop(n, allRows(y))
		return rows(y, at)
	case is:
		return vec.Drop(n, y)
	}
	return columns(x, y, table.Drop)
}

// columns is what f makes of a table and the names of some columns.
func columns(x, t api.V, f func(t api.V, names ...string) (api.V, api.Errno)) (api.V, api.Errno) {
	l, are := names(x)
	if !are {
		return api.V{}, api.ErrType
	}
	return f(t, l...)
}

// cast is numbers as those of another type, which a symbol tells.
func cast(x, y api.V) (api.V, api.Errno) {
	s, is := symbol(x)
	if !is {
		return api.V{}, api.ErrType
	}
	t, known := map[string]int{"b": api.KBool, "i": api.KInt, "t": api.KTime, "d": api.KDec}[s]
	if !known {
		return api.V{}, api.ErrArg
	}
	return atomic(func(v api.V) (api.V, api.Errno) { return vec.Cast(t, v) })(y)
}

// apply is x, taken apart by each element of y.
func apply(x, y api.V) (api.V, api.Errno) {
	if !isSequence(y) {
		return api.V{}, api.ErrType
	}
	return Index(x, elements(y)...)
}

// within tells of each element of x whether it is neither below the first of y nor above the second.
func within(x, y api.V) (api.V, api.Errno) {
	switch {
	case !isVector(y):
		return api.V{}, api.ErrType
	case value.Count(y) != 2:
		return api.V{}, api.ErrLength
	}
	return atomic(between(element(y, 0), element(y, 1)))(x)
}

func between(least, greatest api.V) monadic {
	return func(x api.V) (api.V, api.Errno) {
		below, e := vec.Do(api.OpLt, x, least)
		above, f := vec.Do(api.OpGt, x, greatest)
		if e = cmp.Or(e, f); e != api.OK {
			return api.V{}, e
		}
		below, _ = vec.Not(below)
		above, _ = vec.Not(above)
		return vec.Do(api.OpMin, below, above)
	}
}

// ascending is the rows of y in their order by these columns.
func ascending(x, y api.V) (api.V, api.Errno) { return columns(x, y, table.Sort) }

// descending is the same the other way: of rows turned round those that are equal stand the other way, too, and turned back as they stood.
func descending(x, y api.V) (api.V, api.Errno) {
	if !isTable(y) {
		return api.V{}, api.ErrType
	}
	y, _ = reverse(y)
	v, e := ascending(x, y)
	if e != api.OK {
		return api.V{}, e
	}
	return reverse(v)
}

func keyedBy(x, y api.V) (api.V, api.Errno) { return columns(x, y, keyed.Key) }
