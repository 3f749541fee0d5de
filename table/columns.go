package table

import (
	"slices"

	"quiver/api"
	"quiver/value"
	"quiver/vec"
)

// Select is the table of these columns: P11.3.
func Select(t api.V, names ...string) (api.V, api.Errno) {
	if !isTable(t) {
		return api.V{}, api.ErrType
	}
	at, there := places(t, names)
	switch {
	case !there || len(names) == 0:
		return api.V{}, api.ErrColumn
	case !unlike(names):
		return api.V{}, api.ErrSchema
	}
	return made(columnsAt(t, at))
}

// Drop is the table without these columns: P11.3.
func Drop(t api.V, names ...string) (api.V, api.Errno) {
	if !isTable(t) {
		return api.V{}, api.ErrType
	}
	gone, there := places(t, names)
	if !there {
		return api.V{}, api.ErrColumn
	}
	var left []int
	for i := range t.L {
		if !slices.Contains(gone, i) {
			left = append(left, i)
		}
	}
	if len(left) == 0 {
		return api.V{}, api.ErrColumn
	}
	return made(columnsAt(t, left))
}

// columnsAt is the names and the columns at these places, in memory of their own.
func columnsAt(t api.V, at []int) (names []string, cols []api.V) {
	for _, place := range at {
		names = append(names, t.S[place])
		cols = append(cols, value.Clone(t.L[place]))
	}
	return names, cols
}

// Rename is the table in which a column has another name: P11.3.
func Rename(t api.V, from, to string) (api.V, api.Errno) {
	if !isTable(t) {
		return api.V{}, api.ErrType
	}
	at, other := slices.Index(t.S, from), slices.Index(t.S, to)
	switch {
	case at < 0 || !isName(to):
		return api.V{}, api.ErrColumn
	case other >= 0 && other != at:
		return api.V{}, api.ErrSchema
	}
	names := slices.Clone(t.S)
	names[at] = to
	return made(names, cloned(t.L))
}

// Set is the table with a column more, or with another one in its place: P11.6.
func Set(t api.V, name string, v api.V) (api.V, api.Errno) {
	if !isTable(t) {
		return api.V{}, api.ErrType
	}
	rows, at := value.Count(t), slices.Index(t.S, name)
	switch {
	case !isName(name):
		return api.V{}, api.ErrColumn
	case !value.IsAtom(v) && !isColumnType(v.T):
		return api.V{}, api.ErrType
	case !value.IsAtom(v) && value.Count(v) != rows:
		return api.V{}, api.ErrLength
	case at < 0 && len(t.S) >= api.MaxColumns:
		return api.V{}, api.ErrSchema
	}
	names, cols := slices.Clone(t.S), cloned(t.L)
	if at < 0 {
		at, names, cols = len(cols), append(names, name), append(cols, api.V{})
	}
	cols[at] = spread(v, rows)
	return made(names, cols)
}

// spread is the column that v stands for: of an atom a vector of it, else v itself.
func spread(v api.V, rows int) api.V {
	if !value.IsAtom(v) {
		return value.Clone(v)
	}
	column, _ := vec.Take(int64(rows), value.Of(v))
	return column
}
