package keyed_test

import (
	"slices"
	"testing"

	"quiver/api"
	"quiver/keyed"
	"quiver/table"
	"quiver/value"
)

// few are elements of which drawn lists are made: atoms ahead, so that a draw below a small number is of them.
func few() []api.V {
	return []api.V{one(1), one(2), symbol("a"), one(null), symbol(""), dec(1), at(1), truth(1), ints(1), ints(1, 2), ints(), list(), symbols("a"), list(ints(1)), small(), small().L[0], pairs(ints(1), ints(2)), lambda("{x}")}
}

// sequence draws a vector, or a list, of that count.
func sequence(draw func(int) int, count int) api.V {
	v := api.V{T: draw(api.KDec + 1)}
	all := few()
	kinds := 2 + draw(len(all)-1)
	for range count {
		switch {
		case v.T == api.KList:
			v.L = append(v.L, all[draw(kinds)])
		case v.T == api.KSym:
			v.S = append(v.S, []string{"a", "", "b", "ab"}[draw(4)])
		case v.T == api.KBool:
			v.N = append(v.N, int64(draw(2)))
		default:
			v.N = append(v.N, []int64{1, 2, null, -3}[draw(4)])
		}
	}
	if v.T == api.KList {
		return value.Of(v.L...)
	}
	return v
}

// mixed is names in some order.
func mixed(draw func(int) int, names ...string) []string {
	l := slices.Clone(names)
	for i := range l {
		j := i + draw(len(l)-i)
		l[i], l[j] = l[j], l[i]
	}
	return l
}

// drawn draws a keyed table; keys come twice now and then.
func drawn(draw func(int) int) api.V {
	names := mixed(draw, "a", "b", "c", "d")[:2+draw(3)]
	n, count := 1+draw(len(names)-1), draw(7)
	k := pairs(api.V{T: api.KTable, S: names[:n]}, api.V{T: api.KTable, S: names[n:]})
	for i := range k.L {
		for range k.L[i].S {
			k.L[i].L = append(k.L[i].L, sequence(draw, count))
		}
	}
	return k
}

// flat is all columns of a keyed table.
func flat(k api.V) api.V {
	return api.V{T: api.KTable, S: slices.Concat(k.L[0].S, k.L[1].S), L: slices.Concat(k.L[0].L, k.L[1].L)}
}

// someColumn draws a column of so many elements that may stand behind an own one, of which it has some.
func someColumn(draw func(int) int, own api.V, count int) api.V {
	column := sequence(draw, count)
	for own.T != api.KList && column.T != own.T && draw(60) > 0 {
		column = sequence(draw, count)
	}
	l := elements(column)
	if own := elements(own); len(own) > 0 {
		for i := range l {
			if draw(3) > 0 {
				l[i] = own[draw(len(own))]
			}
		}
	}
	return laid(column, l)
}

// someRows draws rows that may fit a keyed table: a table, a keyed table, a row, or anything else.
func someRows(draw func(int) int, k api.V) api.V {
	if draw(12) == 0 {
		return append(few(), drawn(draw), flat(drawn(draw)))[draw(len(few())+2)]
	}
	all, count := flat(k), draw(5)
	rows := api.V{T: api.KTable}
	for _, name := range mixed(draw, all.S...) {
		if draw(60) > 0 {
			rows.S = append(rows.S, name)
			rows.L = append(rows.L, someColumn(draw, all.L[slices.Index(all.S, name)], count))
		}
	}
	switch n := len(rows.S); {
	case n > 1 && draw(3) == 0:
		cut := 1 + draw(n-1)
		return pairs(api.V{T: api.KTable, S: rows.S[:cut], L: rows.L[:cut]}, api.V{T: api.KTable, S: rows.S[cut:], L: rows.L[cut:]})
	case n > 0 && count > 0 && draw(3) == 0:
		return pairs(symbols(rows.S...), value.Of(rowAt(rows, 0)...))
	case n == 0:
		return flat(k)
	}
	return rows
}

// someKey draws a key, which the table often has.
func someKey(draw func(int) int, k api.V) []api.V {
	keys := k.L[0]
	if count := value.Count(keys); count > 0 && draw(3) > 0 {
		return rowAt(keys, draw(count))
	}
	var x []api.V
	for range keys.L {
		x = append(x, few()[draw(len(few()))])
	}
	if draw(10) == 0 {
		return x[1:]
	}
	return x
}

// The chapter's words, one thing after the other.

// laid is a column that has these elements now: a vector stays one, if it can.
func laid(column api.V, l []api.V) api.V {
	if column.T > api.KList && !slices.ContainsFunc(l, func(x api.V) bool { return x.T != -column.T }) {
		v := api.V{T: column.T}
		for _, x := range l {
			v.N = append(v.N, x.N...)
			v.S = append(v.S, x.S...)
		}
		return v
	}
	return value.Of(l...)
}

// rowAt is what the columns of a table have at a place.
func rowAt(t api.V, i int) []api.V {
	var l []api.V
	for _, column := range t.L {
		l = append(l, elements(column)[i])
	}
	return l
}

// rowsOf are those of a table.
func rowsOf(t api.V) [][]api.V {
	var l [][]api.V
	for i := range value.Count(t) {
		l = append(l, rowAt(t, i))
	}
	return l
}

// place is where the rows begin with a key first, or how many there are.
func place(rows [][]api.V, x []api.V) int {
	for i, row := range rows {
		if slices.EqualFunc(row[:len(x)], x, value.Match) {
			return i
		}
	}
	return len(rows)
}

// twice tells whether of rows two begin with the same n elements.
func twice(rows [][]api.V, n int) bool {
	for i, row := range rows {
		if place(rows[:i], row[:n]) < i {
			return true
		}
	}
	return false
}

// relaid is the keyed table k with these rows: those columns that are lists are value.Of of their elements, and bare has what they are without any.
func relaid(k, bare api.V, rows [][]api.V) api.V {
	u := pairs(api.V{T: api.KTable, S: k.L[0].S}, api.V{T: api.KTable, S: k.L[1].S})
	for i, column := range flat(k).L {
		var l []api.V
		for _, row := range rows {
			l = append(l, row[i])
		}
		column = laid(column, l)
		if len(rows) == 0 {
			column = bare.L[i]
		}
		part := min(i/len(k.L[0].S), 1)
		u.L[part].L = append(u.L[part].L, column)
	}
	return u
}

// put is the keyed table into which rows are inserted, or upserted.
func put(k, rows api.V, upsert bool) (api.V, api.Errno) {
	if rows.T == api.KDict && rows.L[0].T == api.KTable {
		var e api.Errno
		if rows, e = keyed.Unkey(rows); e != api.OK {
			return api.V{}, e
		}
	}
	all, e := table.Insert(flat(k), rows)
	if e != api.OK {
		return api.V{}, e
	}
	n, lines := len(k.L[0].S), rowsOf(flat(k))
	for _, line := range rowsOf(all)[len(lines):] {
		switch at := place(lines, line[:n]); {
		case at == len(lines):
			lines = append(lines, line)
		case upsert:
			copy(lines[at][n:], line[n:])
		default:
			return api.V{}, api.ErrKey
		}
	}
	return relaid(k, all, lines), api.OK
}

// got is what a keyed table has for a key.
func got(k api.V, x []api.V) api.V {
	at := place(rowsOf(k.L[0]), x)
	if at < value.Count(k.L[1]) {
		return pairs(symbols(k.L[1].S...), value.Of(rowAt(k.L[1], at)...))
	}
	var l []api.V
	for _, column := range k.L[1].L {
		if column.T == api.KList {
			l = append(l, list())
		} else {
			l = append(l, value.Null(column.T))
		}
	}
	return pairs(symbols(k.L[1].S...), value.Of(l...))
}

// holds holds an answer against a value, or, where there is an error, against that.
func holds(t *testing.T, want api.V, wantE api.Errno, what string, handed ...api.V) func(got api.V, e api.Errno) {
	if wantE != api.OK {
		want = api.V{}
	}
	return func(got api.V, e api.Errno) {
		t.Helper()
		wants(t, got, e, want, wantE, what, handed...)
	}
}

// TestKeyDrawn: P12.1, P12.5.
func TestKeyDrawn(t *testing.T) {
	draw := draws(121)
	seen := map[api.Errno]int{}
	for range 20000 {
		k := drawn(draw)
		all := flat(k)
		made(t, all)(keyed.Unkey(k))
		var e api.Errno
		if twice(rowsOf(all), len(k.L[0].S)) {
			e = api.ErrKey
		}
		wantUnique(t, k, e == api.OK)
		holds(t, k, e, "Key", all)(keyed.Key(all, k.L[0].S...))
		seen[e]++
		names := append(mixed(draw, all.S...), "e", all.S[0])[draw(2):][:draw(4)]
		part, e := table.Select(all, names...)
		rest, f := table.Drop(all, names...)
		switch {
		case e == api.OK && f != api.OK:
			e = f
		case e == api.OK && twice(rowsOf(part), len(names)):
			e = api.ErrKey
		}
		seen[e]++
		holds(t, pairs(part, rest), e, "Key", all, symbols(names...))(keyed.Key(all, names...))
		if e == api.OK {
			back, e := keyed.Unkey(pairs(part, rest))
			is(t, "Unkey", e, api.OK)
			made(t, all)(table.Select(back, all.S...))
		}
	}
	is(t, "all is drawn", seen[api.OK] > 5000 && seen[api.ErrKey] > 5000 && seen[api.ErrColumn] > 1000, true)
}

// TestFindDrawn: P12.2.
func TestFindDrawn(t *testing.T) {
	draw := draws(122)
	for range 30000 {
		k := drawn(draw)
		x := someKey(draw, k)
		if len(x) != len(k.L[0].L) {
			_, e := keyed.Find(k, x...)
			is(t, "Find", e, api.ErrLength)
			refused(t, api.ErrLength)(keyed.Get(k, x...))
			continue
		}
		wantFind(t, k, place(rowsOf(k.L[0]), x), x...)
		holds(t, got(k, x), api.OK, "Get", append([]api.V{k}, x...)...)(keyed.Get(k, x...))
	}
}

// TestPlacesDrawn: P12.2.
func TestPlacesDrawn(t *testing.T) {
	draw := draws(123)
	found := 0
	for range 20000 {
		k := drawn(draw)
		v := api.V{T: api.KTable}
		count := draw(6)
		for _, name := range mixed(draw, append(k.L[0].S, "e")...) {
			own := ints()
			if i := slices.Index(k.L[0].S, name); i >= 0 {
				own = k.L[0].L[i]
			}
			v.S, v.L = append(v.S, name), append(v.L, someColumn(draw, own, count))
		}
		keys, e := table.Select(v, k.L[0].S...)
		is(t, "Select", e, api.OK)
		var want []int
		for _, x := range rowsOf(keys) {
			at := place(rowsOf(k.L[0]), x)
			if at == value.Count(k) {
				at = -1
			} else {
				found++
			}
			want = append(want, at)
		}
		wantPlaces(t, k, v, want...)
	}
	is(t, "some are found", found > 2000, true)
}

// TestPutDrawn: P12.3, P12.4; P12.7: Insert that succeeds is Upsert.
func TestPutDrawn(t *testing.T) {
	draw := draws(124)
	seen := map[api.Errno]int{}
	for range 20000 {
		k := drawn(draw)
		rows := someRows(draw, k)
		inserted, e := put(k, rows, false)
		seen[e]++
		holds(t, inserted, e, "Insert", k, rows)(keyed.Insert(k, rows))
		upserted, f := put(k, rows, true)
		holds(t, upserted, f, "Upsert", k, rows)(keyed.Upsert(k, rows))
		if e == api.OK {
			is(t, "Insert is Upsert", value.Match(inserted, upserted), true)
		}
	}
	for _, e := range []api.Errno{api.OK, api.ErrKey, api.ErrType, api.ErrSchema} {
		is(t, "all is drawn", seen[e] > 500, true)
	}
}

// TestJoinDrawn: P12.4.
func TestJoinDrawn(t *testing.T) {
	draw := draws(125)
	seen := map[api.Errno]int{}
	for range 20000 {
		k := drawn(draw)
		want, e := k, api.OK
		var l []api.V
		for range draw(4) {
			l = append(l, someRows(draw, k))
			if e == api.OK {
				want, e = put(want, l[len(l)-1], true)
			}
		}
		seen[e]++
		holds(t, want, e, "Join", append([]api.V{k}, l...)...)(keyed.Join(k, l...))
	}
	is(t, "all is drawn", seen[api.OK] > 3000 && seen[api.ErrType] > 1000 && seen[api.ErrSchema] > 1000, true)
}

// TestUpserted: P12.6, P12.7.
func TestUpserted(t *testing.T) {
	draw := draws(126)
	held := 0
	for range 20000 {
		k := drawn(draw)
		rows := someRows(draw, k)
		u, e := keyed.Upsert(k, rows)
		if e != api.OK {
			continue
		}
		held++
		none := pairs(api.V{T: api.KTable, S: k.L[0].S}, api.V{T: api.KTable, S: k.L[1].S})
		for i := range none.L {
			for range none.L[i].S {
				none.L[i].L = append(none.L[i].L, list())
			}
		}
		only, e := table.Insert(flat(none), unkeyed(rows)) // the rows alone, their columns in k's order
		is(t, "the rows alone", e, api.OK)
		n := len(k.L[0].S)
		var last [][]api.V
		for _, line := range rowsOf(only) {
			last = append([][]api.V{line}, last...)
		}
		for _, line := range last {
			want := last[place(last, line[:n])]
			made(t, pairs(symbols(k.L[1].S...), value.Of(want[n:]...)))(keyed.Get(u, line[:n]...))
		}
		for _, x := range rowsOf(k.L[0]) {
			if place(last, x) == len(last) {
				made(t, got(k, x))(keyed.Get(u, x...))
			}
		}
		if !twice(rowsOf(k.L[0]), n) {
			wantUnique(t, u, true)
		}
		if !slices.ContainsFunc(flat(k).L, func(column api.V) bool { return column.T == api.KList }) {
			made(t, u)(keyed.Upsert(u, rows))
		}
	}
	is(t, "all is drawn", held > 7000, true)
}

// unkeyed is rows that are no keyed table.
func unkeyed(rows api.V) api.V {
	if rows.T == api.KDict && rows.L[0].T == api.KTable {
		return flat(rows)
	}
	return rows
}

// TestDeleteDrawn: P12.4, P12.8.
func TestDeleteDrawn(t *testing.T) {
	draw := draws(127)
	gone := 0
	for range 30000 {
		k := drawn(draw)
		x := someKey(draw, k)
		if len(x) != len(k.L[0].L) {
			refused(t, api.ErrLength)(keyed.Delete(k, x...))
			continue
		}
		lines := rowsOf(flat(k))
		at := place(lines, x)
		want := k
		if at < len(lines) {
			bare := api.V{}
			for _, column := range flat(k).L {
				bare.L = append(bare.L, api.V{T: column.T})
			}
			want = relaid(k, bare, slices.Delete(lines, at, at+1))
		}
		holds(t, want, api.OK, "Delete", append([]api.V{k}, x...)...)(keyed.Delete(k, x...))
		if twice(rowsOf(k.L[0]), len(x)) || at == value.Count(k) {
			continue
		}
		gone++
		wantFind(t, want, value.Count(want), x...)
		for i, y := range rowsOf(k.L[0]) {
			if i != at {
				made(t, got(k, y))(keyed.Get(want, y...))
			}
		}
	}
	is(t, "all is drawn", gone > 5000, true)
}
