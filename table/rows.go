package table

import (
	"slices"

	"quiver/api"
	"quiver/value"
	"quiver/vec"
)

// Rows is the table of the rows at these places: P11.4.
func Rows(t api.V, at ...int) (api.V, api.Errno) {
	switch {
	case !isTable(t):
		return api.V{}, api.ErrType
	case !inside(t, at):
		return api.V{}, api.ErrRange
	case len(at) > api.MaxCount:
		return api.V{}, api.ErrMany
	}
	l := make([]int64, len(at))
	for i, place := range at {
		l[i] = int64(place)
	}
	return rowsAt(t, l)
}

// Delete is the table without the rows at these places: P11.4.
func Delete(t api.V, at ...int) (api.V, api.Errno) {
	switch {
	case !isTable(t):
		return api.V{}, api.ErrType
	case !inside(t, at):
		return api.V{}, api.ErrRange
	}
	gone := make([]bool, value.Count(t))
	for _, place := range at {
		gone[place] = true
	}
	var left []int64
	for i, away := range gone {
		if !away {
			left = append(left, int64(i))
		}
	}
	return rowsAt(t, left)
}

// inside tells whether there are rows at all these places.
func inside(t api.V, at []int) bool {
	rows := value.Count(t)
	return !slices.ContainsFunc(at, func(place int) bool { return place < 0 || place >= rows })
}

// rowsAt is the table of the rows at these places, all of which are there.
func rowsAt(t api.V, at []int64) (api.V, api.Errno) {
	cols := make([]api.V, len(t.L))
	for i, column := range t.L {
		cols[i], _ = vec.Index(column, at...)
	}
	return made(slices.Clone(t.S), cols)
}

// Insert is the table with more rows behind its own: P11.5.
func Insert(t, rows api.V) (api.V, api.Errno) {
	if !isTable(t) {
		return api.V{}, api.ErrType
	}
	more, fits := asTable(rows)
	if !fits {
		return api.V{}, api.ErrType
	}
	at, there := places(more, t.S)
	if !there || len(more.S) != len(t.S) {
		return api.V{}, api.ErrSchema
	}
	for i, place := range at {
		if t.L[i].T != api.KList && t.L[i].T != more.L[place].T {
			return api.V{}, api.ErrType
		}
	}
	if value.Count(t)+value.Count(more) > api.MaxCount {
		return api.V{}, api.ErrMany
	}
	cols := make([]api.V, len(t.L))
	for i, place := range at {
		cols[i] = extended(t.L[i], more.L[place])
	}
	return made(slices.Clone(t.S), cols)
}

// asTable is rows as a table: of a dictionary that is a row each value makes a column of its own, so an atom's is a vector, all else's a list.
func asTable(rows api.V) (api.V, bool) {
	if rows.T != api.KDict || len(rows.L) != 2 {
		return rows, isTable(rows)
	}
	names, values := rows.L[0], rows.L[1]
	if names.T != api.KSym || !isColumnType(values.T) || !level(rows.L) || !unlike(names.S) {
		return api.V{}, false
	}
	t := api.V{T: api.KTable, S: names.S}
	for _, x := range elements(values) {
		t.L = append(t.L, value.Of(x))
	}
	return t, true
}

// extended is a column with more elements behind its own, which fit it. A list without any has no type of its own to keep.
func extended(column, more api.V) api.V {
	switch {
	case column.T != api.KList:
		return api.V{T: column.T, N: slices.Concat(column.N, more.N), S: slices.Concat(column.S, more.S)}
	case len(column.L) == 0:
		return value.Clone(more)
	}
	return value.Of(append(elements(column), elements(more)...)...)
}

// Update is the table in which a column has other elements at these places: P11.6.
func Update(t api.V, name string, at []int, v api.V) (api.V, api.Errno) {
	if !isTable(t) {
		return api.V{}, api.ErrType
	}
	place := slices.Index(t.S, name)
	switch {
	case place < 0:
		return api.V{}, api.ErrColumn
	case !inside(t, at):
		return api.V{}, api.ErrRange
	case !takes(t.L[place], v):
		return api.V{}, api.ErrType
	case !value.IsAtom(v) && value.Count(v) != len(at):
		return api.V{}, api.ErrLength
	}
	cols := cloned(t.L)
	cols[place] = updated(t.L[place], at, v)
	return made(slices.Clone(t.S), cols)
}

// takes tells whether a column may have v, or what is in it, for elements.
func takes(column, v api.V) bool {
	t := v.T
	if value.IsAtom(v) {
		t = -t
	}
	if !isColumnType(t) || column.T != api.KList && column.T != t {
		return false
	}
	return !value.IsAtom(v) || value.Check(v) == api.OK // an atom that has no element is none
}

// updated is a column with what is in v at these places.
func updated(column api.V, at []int, v api.V) api.V {
	switch column.T {
	case api.KList:
		return value.Of(replaced(column.L, at, elements(v))...)
	case api.KSym:
		return api.V{T: column.T, S: replaced(column.S, at, v.S)}
	}
	return api.V{T: column.T, N: replaced(column.N, at, v.N)}
}

// replaced is a list with others at these places, one by one; a single one goes to all of them.
func replaced[E any](l []E, at []int, with []E) []E {
	l = slices.Clone(l)
	for i, place := range at {
		l[place] = with[min(i, len(with)-1)]
	}
	return l
}
