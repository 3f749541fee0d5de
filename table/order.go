package table

import (
	"cmp"
	"slices"

	"quiver/api"
	"quiver/value"
)

// Sort is the table of all rows in their order by these columns: P11.7.
func Sort(t api.V, names ...string) (api.V, api.Errno) {
	at, e := Order(t, names...)
	if e != api.OK {
		return api.V{}, e
	}
	return Rows(t, at...)
}

// Order is the places of all rows in their order by these columns: P11.7.
func Order(t api.V, names ...string) ([]int, api.Errno) {
	if !isTable(t) {
		return nil, api.ErrType
	}
	by, there := places(t, names)
	if !there {
		return nil, api.ErrColumn
	}
	at := make([]int, value.Count(t))
	for i := range at {
		at[i] = i
	}
	slices.SortFunc(at, byAll(orders(t, by)))
	return at, api.OK
}

// order is how the row at a place stands to the one at another place.
type order func(i, j int) int

// orders are those by the columns at these places. A column that comes again tells nothing more.
func orders(t api.V, by []int) []order {
	var l []order
	asked := make([]bool, len(t.L))
	for _, place := range by {
		if !asked[place] {
			l = append(l, byColumn(t.L[place]))
		}
		asked[place] = true
	}
	return l
}

// byAll is the order by the first one that tells rows apart; by their places, if none does.
func byAll(l []order) order {
	return func(i, j int) int {
		for _, by := range l {
			if c := by(i, j); c != 0 {
				return c
			}
		}
		return cmp.Compare(i, j)
	}
}

// byColumn is the order of a column's elements: that of value.Compare, which of elements of one type is that of their numbers, or symbols.
func byColumn(column api.V) order {
	switch column.T {
	case api.KList:
		return along(column.L, value.Compare)
	case api.KSym:
		return along(column.S, cmp.Compare[string])
	}
	return along(column.N, cmp.Compare[int64])
}

// along is the order of what stands at the places of a list.
func along[E any](l []E, compare func(a, b E) int) order {
	return func(i, j int) int { return compare(l[i], l[j]) }
}
