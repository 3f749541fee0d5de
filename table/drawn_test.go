package table_test

import (
	"slices"
	"testing"

	"quiver/api"
	"quiver/table"
	"quiver/value"
)

// few are elements of which drawn lists are made: atoms ahead, so that a draw below a small number is of them.
func few() []api.V {
	return []api.V{one(1), one(2), symbol("a"), one(null), symbol(""), dec(1), at(1), truth(1), ints(1), ints(1, 2), ints(), list(), symbols("a"), list(ints(1)), small(), pairs(ints(1), ints(2)), lambda("{x}")}
}

// sequence draws a vector, or a list, of that count.
func sequence(draw func(int) int, count int) api.V {
	v := api.V{T: draw(api.KDec + 1)}
	all := few()
	kinds := 2 + draw(len(all)-1)
	for range count {
		switch {
		case v.T == api.KList:
			v.L = append(v.L, all[draw(kinds)])
		case v.T == api.KSym:
			v.S = append(v.S, []string{"a", "", "b", "ab"}[draw(4)])
		case v.T == api.KBool:
			v.N = append(v.N, int64(draw(2)))
		default:
			v.N = append(v.N, []int64{1, 2, null, -3}[draw(4)])
		}
	}
	if v.T == api.KList {
		return value.Of(v.L...)
	}
	return v
}

// mixed draws the names a to d in some order.
func mixed(draw func(int) int) []string {
	l := []string{"a", "b", "c", "d"}
	for i := range l {
		j := i + draw(len(l)-i)
		l[i], l[j] = l[j], l[i]
	}
	return l
}

// drawn draws a table.
func drawn(draw func(int) int) api.V {
	count := draw(7)
	t := api.V{T: api.KTable, S: mixed(draw)[:1+draw(4)]}
	for range t.S {
		t.L = append(t.L, sequence(draw, count))
	}
	return t
}

// someNames draws names, most of which the table has.
func someNames(draw func(int) int, t api.V, count int) []string {
	var l []string
	for range count {
		if draw(8) == 0 {
			l = append(l, []string{"", "z", "a", "d", "a\x00"}[draw(5)])
		} else {
			l = append(l, t.S[draw(len(t.S))])
		}
	}
	return l
}

// somePlaces draws places, most of which the table has.
func somePlaces(draw func(int) int, t api.V, count int) []int {
	var l []int
	for range count {
		switch {
		case draw(20) == 0:
			l = append(l, []int{-1, value.Count(t), 100}[draw(3)])
		case value.Count(t) > 0:
			l = append(l, draw(value.Count(t)))
		}
	}
	return l
}

// The chapter's words, one thing after the other.

// laid is a column that has these elements now: a vector stays one.
func laid(column api.V, l []api.V) api.V {
	if column.T == api.KList {
		return value.Of(l...)
	}
	v := api.V{T: column.T}
	for _, x := range l {
		v.N = append(v.N, x.N...)
		v.S = append(v.S, x.S...)
	}
	return v
}

// picked is a table of the rows at these places.
func picked(t api.V, at []int) api.V {
	rows := api.V{T: api.KTable, S: t.S}
	for _, column := range t.L {
		var l []api.V
		for _, i := range at {
			l = append(l, elements(column)[i])
		}
		rows.L = append(rows.L, laid(column, l))
	}
	return rows
}

// outside tells whether the table has not all these places.
func outside(t api.V, at []int) bool {
	return slices.ContainsFunc(at, func(i int) bool { return i < 0 || i >= value.Count(t) })
}

// lacks tells whether the table has not all these names.
func lacks(t api.V, names []string) bool {
	return slices.ContainsFunc(names, func(name string) bool { return !slices.Contains(t.S, name) })
}

// twice tells whether a name comes twice.
func twice(names []string) bool {
	for i, name := range names {
		if slices.Contains(names[:i], name) {
			return true
		}
	}
	return false
}

// holds holds an answer against a table, or, where there is an error, against that.
func holds(t *testing.T, want api.V, wantE api.Errno, what string, handed ...api.V) func(got api.V, e api.Errno) {
	if wantE != api.OK {
		want = api.V{}
	}
	return func(got api.V, e api.Errno) {
		t.Helper()
		wants(t, got, e, want, wantE, what, handed...)
	}
}

// TestColumnsDrawn: P11.2, P11.3.
func TestColumnsDrawn(t *testing.T) {
	draw := draws(111)
	for range 20000 {
		v := drawn(draw)
		names := someNames(draw, v, draw(4))
		chosen, left := api.V{T: api.KTable}, api.V{T: api.KTable}
		e, f := api.OK, api.OK
		if lacks(v, names) {
			e, f = api.ErrColumn, api.ErrColumn
		} else {
			for _, name := range names {
				column, e := table.Column(v, name)
				wants(t, column, e, v.L[slices.Index(v.S, name)], api.OK, "Column", v)
				chosen.S, chosen.L = append(chosen.S, name), append(chosen.L, column)
			}
			for i, name := range v.S {
				if !slices.Contains(names, name) {
					left.S, left.L = append(left.S, name), append(left.L, v.L[i])
				}
			}
			if twice(names) {
				e = api.ErrSchema
			}
			if len(names) == 0 {
				e = api.ErrColumn
			}
			if len(left.S) == 0 {
				f = api.ErrColumn
			}
		}
		holds(t, chosen, e, "Select", v, symbols(names...))(table.Select(v, names...))
		holds(t, left, f, "Drop", v, symbols(names...))(table.Drop(v, names...))
	}
}

// TestRowsDrawn: P11.4, P11.8.
func TestRowsDrawn(t *testing.T) {
	draw := draws(112)
	for range 20000 {
		v := drawn(draw)
		places := somePlaces(draw, v, draw(8))
		if outside(v, places) {
			refused(t, api.ErrRange)(table.Rows(v, places...))
			refused(t, api.ErrRange)(table.Delete(v, places...))
			continue
		}
		var all, gone, left []int
		for i := range value.Count(v) {
			all = append(all, i)
			if slices.Contains(places, i) {
				gone = append(gone, i)
			} else {
				left = append(left, i)
			}
		}
		holds(t, picked(v, places), api.OK, "Rows", v)(table.Rows(v, places...))
		holds(t, picked(v, left), api.OK, "Delete", v)(table.Delete(v, places...))
		holds(t, picked(v, gone), api.OK, "Delete of the rest", v)(table.Delete(v, left...))
		holds(t, v, api.OK, "Rows of all", v)(table.Rows(v, all...))
		holds(t, v, api.OK, "Delete of none", v)(table.Delete(v))
	}
}

// laidRows are rows as a table, and why they are none: P11.5.
func laidRows(rows api.V) (api.V, api.Errno) {
	if rows.T == api.KTable {
		return rows, api.OK
	}
	if rows.T != api.KDict || rows.L[0].T != api.KSym || twice(rows.L[0].S) {
		return api.V{}, api.ErrType
	}
	t := api.V{T: api.KTable, S: rows.L[0].S}
	for _, x := range elements(rows.L[1]) {
		t.L = append(t.L, only(x))
	}
	return t, api.OK
}

// inserted is the table with rows, each column's elements behind those that it has: P11.5.
func inserted(t, rows api.V) (api.V, api.Errno) {
	more, e := laidRows(rows)
	if e != api.OK {
		return api.V{}, e
	}
	if lacks(more, t.S) || lacks(t, more.S) {
		return api.V{}, api.ErrSchema
	}
	u := api.V{T: api.KTable, S: t.S}
	for i, name := range t.S {
		old, put := t.L[i], more.L[slices.Index(more.S, name)]
		switch {
		case old.T == api.KList && len(old.L) == 0:
			u.L = append(u.L, put)
		case old.T == api.KList || old.T == put.T:
			u.L = append(u.L, laid(old, append(elements(old), elements(put)...)))
		default:
			return api.V{}, api.ErrType
		}
	}
	return u, api.OK
}

// someRows draws rows that may fit a table: its own ones turned, others of its names, a row, or anything else.
func someRows(draw func(int) int, t api.V) api.V {
	rows := drawn(draw)
	if draw(4) > 0 {
		rows = api.V{T: api.KTable}
		count := draw(4)
		for _, name := range mixed(draw) {
			i := slices.Index(t.S, name)
			if i < 0 {
				continue
			}
			column := sequence(draw, count)
			for t.L[i].T != api.KList && column.T != t.L[i].T && draw(30) > 0 {
				column = sequence(draw, count)
			}
			rows.S, rows.L = append(rows.S, name), append(rows.L, column)
		}
	}
	if draw(2) == 0 || value.Count(rows) == 0 {
		return rows
	}
	var l []api.V
	for _, column := range rows.L {
		l = append(l, elements(column)[0])
	}
	return pairs(symbols(rows.S...), value.Of(l...))
}

// TestInsertDrawn: P11.5.
func TestInsertDrawn(t *testing.T) {
	draw := draws(113)
	seen := map[api.Errno]int{}
	for range 40000 {
		v := drawn(draw)
		rows := someRows(draw, v)
		want, e := inserted(v, rows)
		seen[e]++
		holds(t, want, e, "Insert", v, rows)(table.Insert(v, rows))
	}
	is(t, "all is drawn", seen[api.OK] > 5000 && seen[api.ErrType] > 1000 && seen[api.ErrSchema] > 1000, true)
}

// TestInsertBack: P11.5: a table that is cut in two, and put together.
func TestInsertBack(t *testing.T) {
	draw := draws(114)
	for range 10000 {
		v := drawn(draw)
		for i, column := range v.L {
			if column.T == api.KList { // which might be a vector when it is cut
				v.L[i] = ints(make([]int64, value.Count(v))...)
			}
		}
		var head, tail []int
		cut := draw(value.Count(v) + 1)
		for i := range value.Count(v) {
			if i < cut {
				head = append(head, i)
			} else {
				tail = append(tail, i)
			}
		}
		made(t, v)(table.Insert(picked(v, head), picked(v, tail)))
	}
}

// spread is what v stands for in a table of so many rows, and why it is no column: P11.6.
func spread(v api.V, rows int) (api.V, api.Errno) {
	switch {
	case v.T < 0:
		return laid(only(v), slices.Repeat([]api.V{v}, rows)), api.OK
	case v.T > api.KDec:
		return api.V{}, api.ErrType
	case len(elements(v)) != rows:
		return api.V{}, api.ErrLength
	}
	return v, api.OK
}

// someValue draws an element, or a sequence of few elements.
func someValue(draw func(int) int, count int) api.V {
	switch draw(3) {
	case 0:
		return few()[draw(len(few()))]
	case 1:
		return sequence(draw, draw(4))
	}
	return sequence(draw, count)
}

// TestSetDrawn: P11.6.
func TestSetDrawn(t *testing.T) {
	draw := draws(115)
	for range 30000 {
		v := drawn(draw)
		name, x := someNames(draw, v, 1)[0], someValue(draw, value.Count(v))
		column, e := spread(x, value.Count(v))
		want := value.Clone(v)
		switch i := slices.Index(v.S, name); {
		case name == "" || name == "a\x00":
			e = api.ErrColumn
		case i >= 0:
			want.L[i] = column
		default:
			want.S, want.L = append(want.S, name), append(want.L, column)
		}
		holds(t, want, e, "Set", v, symbol(name), x)(table.Set(v, name, x))
	}
}

// updated is the table with x, or what is in it, in a column, place by place: P11.6.
func updated(t api.V, name string, at []int, x api.V) (api.V, api.Errno) {
	i := slices.Index(t.S, name)
	switch {
	case i < 0:
		return api.V{}, api.ErrColumn
	case outside(t, at):
		return api.V{}, api.ErrRange
	case x.T > api.KDec || t.L[i].T != api.KList && max(x.T, -x.T) != t.L[i].T:
		return api.V{}, api.ErrType
	}
	with, e := spread(x, len(at))
	if e != api.OK {
		return api.V{}, e
	}
	l := elements(t.L[i])
	for n, place := range at {
		l[place] = elements(with)[n]
	}
	u := value.Clone(t)
	u.L[i] = laid(t.L[i], l)
	return u, api.OK
}

// TestUpdateDrawn: P11.6.
func TestUpdateDrawn(t *testing.T) {
	draw := draws(116)
	seen := map[api.Errno]int{}
	for range 60000 {
		v := drawn(draw)
		name, places := someNames(draw, v, 1)[0], somePlaces(draw, v, draw(5))
		x := someValue(draw, len(places))
		want, e := updated(v, name, places, x)
		seen[e]++
		holds(t, want, e, "Update", v, symbol(name), x)(table.Update(v, name, places, x))
	}
	for _, e := range []api.Errno{api.OK, api.ErrColumn, api.ErrRange, api.ErrType, api.ErrLength} {
		is(t, "all is drawn", seen[e] > 1000, true)
	}
}

// TestSortDrawn: P11.7, P11.9: rising, of the same rows, equal ones as they were; sorted again it is the same.
func TestSortDrawn(t *testing.T) {
	draw := draws(117)
	for range 30000 {
		v := drawn(draw)
		names := someNames(draw, v, draw(4))
		if lacks(v, names) {
			refused(t, api.ErrColumn)(table.Sort(v, names...))
			continue
		}
		var want []int
		for i := range value.Count(v) {
			want = append(want, i)
		}
		slices.SortStableFunc(want, func(i, j int) int {
			for _, name := range names {
				l := elements(v.L[slices.Index(v.S, name)])
				if c := value.Compare(l[i], l[j]); c != 0 {
					return c
				}
			}
			return 0
		})
		wantOrder(t, v, names, want...)
		sorted := picked(v, want)
		made(t, sorted)(table.Sort(v, names...))
		made(t, sorted)(table.Sort(sorted, names...))
	}
}
