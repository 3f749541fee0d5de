package table_test

import (
	"slices"
	"testing"

	"quiver/api"
	"quiver/table"
)

// five is a table of a column of each kind; of the list the places 0 and 1, and 2 alone, make vectors.
func five() api.V {
	return columns("a b c", ints(1, 2, 3, 4, null), symbols("x", "", "y", "x", "z"), list(one(1), one(2), symbol("q"), ints(1, 2), list()))
}

// TestRows: P11.4.
func TestRows(t *testing.T) {
	v := five()
	made(t, v)(table.Rows(v, 0, 1, 2, 3, 4))
	made(t, columns("a b c", ints(), symbols(), list()))(table.Rows(v))
	made(t, columns("a b c", ints(null), symbols("z"), list(list())))(table.Rows(v, 4))
	made(t, columns("a b c", ints(4, 3, 3), symbols("x", "y", "y"), list(ints(1, 2), symbol("q"), symbol("q"))))(table.Rows(v, 3, 2, 2))
	made(t, columns("a b c", ints(2, 1, 2), symbols("", "x", ""), ints(2, 1, 2)))(table.Rows(v, 1, 0, 1))
	made(t, columns("a b c", ints(3), symbols("y"), symbols("q")))(table.Rows(v, 2))
	made(t, columns("a", decs()))(table.Rows(columns("a", decs())))
	zeros := api.V{T: api.KInt, N: make([]int64, api.MaxCount)}
	made(t, columns("a", zeros))(table.Rows(columns("a", ints(0, 1)), make([]int, api.MaxCount)...))
}

// TestRowsErrors: P11.4: the errors, and which comes first.
func TestRowsErrors(t *testing.T) {
	v := five()
	many := make([]int, api.MaxCount+1)
	for _, place := range []int{5, 6, -1, -5, 1 << 32, 1 << 40, -1 << 63, 1<<63 - 1} {
		refused(t, api.ErrRange)(table.Rows(v, place))
		refused(t, api.ErrRange)(table.Rows(v, 0, place, 1))
		refused(t, api.ErrRange)(table.Rows(v, append(many, place)...))
		refused(t, api.ErrRange)(table.Delete(v, place))
		refused(t, api.ErrRange)(table.Delete(v, 0, 0, place))
		refused(t, api.ErrRange)(table.Delete(v, append(many, place)...))
	}
	refused(t, api.ErrRange)(table.Rows(columns("a", ints()), 0))
	refused(t, api.ErrRange)(table.Delete(columns("a", ints()), 0))
	refused(t, api.ErrMany)(table.Rows(v, many...))
	refused(t, api.ErrMany)(table.Rows(v, append(many, many...)...))
}

// TestDelete: P11.4.
func TestDelete(t *testing.T) {
	v := five()
	made(t, v)(table.Delete(v))
	made(t, columns("a b c", ints(2, 4, null), symbols("", "x", "z"), list(one(2), ints(1, 2), list())))(table.Delete(v, 2, 0))
	made(t, columns("a b c", ints(2, 4, null), symbols("", "x", "z"), list(one(2), ints(1, 2), list())))(table.Delete(v, 0, 2, 2, 0, 0))
	made(t, columns("a b c", ints(1, 2), symbols("x", ""), ints(1, 2)))(table.Delete(v, 4, 3, 2))
	made(t, columns("a b c", ints(), symbols(), list()))(table.Delete(v, 3, 1, 4, 0, 2))
	made(t, columns("a b c", ints(2, 3, 4, null), symbols("", "y", "x", "z"), list(one(2), symbol("q"), ints(1, 2), list())))(table.Delete(v, make([]int, api.MaxCount+1)...))
	made(t, columns("a", list()))(table.Delete(columns("a", list())))
}

// TestInsertTable: P11.5: the rows of a table.
func TestInsertTable(t *testing.T) {
	v := small()
	made(t, columns("a b", ints(1, 2, 3, 4, 5), symbols("x", "y", "x", "", "z")))(table.Insert(v, columns("a b", ints(4, 5), symbols("", "z"))))
	made(t, columns("a b", ints(1, 2, 3, 4, 5), symbols("x", "y", "x", "", "z")))(table.Insert(v, columns("b a", symbols("", "z"), ints(4, 5))))
	made(t, v)(table.Insert(v, columns("b a", symbols(), ints())))
	made(t, v)(table.Insert(columns("a b", ints(), symbols()), columns("b a", v.L[1], v.L[0])))
	made(t, columns("a b", slicesOf(v.L[0], 2), slicesOf(v.L[1], 2)))(table.Insert(v, v))
	made(t, columns("a", bools(0, 1)))(table.Insert(columns("a", bools(0)), columns("a", bools(1))))
	made(t, columns("a b", times(0, 1), decs(2, 3)))(table.Insert(columns("a b", times(0), decs(2)), columns("b a", decs(3), times(1))))
	most := wide(api.MaxColumns)
	twice := wide(api.MaxColumns)
	for i := range twice.L {
		twice.L[i] = slicesOf(twice.L[i], 2)
	}
	turned := wide(api.MaxColumns)
	slices.Reverse(turned.S)
	slices.Reverse(turned.L)
	made(t, twice)(table.Insert(most, turned))
}

// slicesOf is a vector as often one behind the other.
func slicesOf(v api.V, often int) api.V {
	return api.V{T: v.T, N: slices.Repeat(v.N, often), S: slices.Repeat(v.S, often)}
}

// TestInsertRow: P11.5: a dictionary is one row.
func TestInsertRow(t *testing.T) {
	v := small()
	want := columns("a b", ints(1, 2, 3, null), symbols("x", "y", "x", ""))
	made(t, want)(table.Insert(v, row("a b", list(one(null), symbol("")))))
	made(t, want)(table.Insert(v, row("b a", list(symbol(""), one(null)))))
	made(t, columns("a b", ints(1), symbols("x")))(table.Insert(columns("a b", ints(), symbols()), row("b a", list(symbol("x"), one(1)))))
	made(t, columns("a b", ints(1, 7), ints(2, 8)))(table.Insert(columns("a b", ints(1), ints(2)), row("b a", ints(8, 7))))
	made(t, columns("a", symbols("x", "y")))(table.Insert(columns("a", symbols("x")), row("a", symbols("y"))))
	made(t, columns("a", decs(1, 2)))(table.Insert(columns("a", decs(1)), row("a", decs(2))))
	made(t, columns("a", times(1, 2)))(table.Insert(columns("a", times(1)), row("a", times(2))))
	made(t, columns("a", bools(1, 0)))(table.Insert(columns("a", bools(1)), row("a", bools(0))))
}

// only is the sequence that has x alone.
func only(x api.V) api.V {
	if x.T < 0 {
		return api.V{T: -x.T, N: x.N, S: x.S}
	}
	return list(x)
}

// both is the sequence of two values.
func both(x, y api.V) api.V {
	if x.T < 0 && x.T == y.T {
		return api.V{T: -x.T, N: append(slices.Clone(x.N), y.N...), S: append(slices.Clone(x.S), y.S...)}
	}
	return list(x, y)
}

// TestInsertLists: P11.5: a column that is a list takes anything; without elements it becomes what is put in.
func TestInsertLists(t *testing.T) {
	l := list(one(1), symbol("a"))
	for _, more := range []api.V{ints(3, 4), symbols("", "a"), bools(0, 1), times(1, 2), decs(1, 2), list(ints(1), list()), list(small(), lambda("{x}"))} {
		none := api.V{T: more.T}
		made(t, columns("a", list(append(elements(l), elements(more)...)...)))(table.Insert(columns("a", l), columns("a", more)))
		made(t, columns("a", more))(table.Insert(columns("a", list()), columns("a", more)))
		made(t, columns("a", l))(table.Insert(columns("a", l), columns("a", none)))
		made(t, columns("a", none))(table.Insert(columns("a", list()), columns("a", none)))
		for _, x := range append(elements(more), more) {
			made(t, columns("a", list(one(1), symbol("a"), x)))(table.Insert(columns("a", l), row("a", only(x))))
			made(t, columns("a", only(x)))(table.Insert(columns("a", list()), row("a", only(x))))
		}
	}
	for _, x := range append(atoms(), ints(), list(), list(one(1), symbol("a")), small(), pairs(small(), small())) {
		made(t, columns("a b", only(x), ints(1)))(table.Insert(columns("a b", list(), ints()), row("b a", both(one(1), x))))
		made(t, columns("a b", list(ints(1), x), ints(1, 2)))(table.Insert(columns("a b", list(ints(1)), ints(1)), row("b a", both(one(2), x))))
	}
	deepest := deep(api.MaxDepth - 2)
	made(t, columns("a", list(ints(1), deepest)))(table.Insert(columns("a", list(ints(1))), row("a", list(deepest))))
}

// TestInsertErrors: P11.5: the errors, and which comes first.
func TestInsertErrors(t *testing.T) {
	v := small()
	full := columns("a b", til(api.MaxCount), symbols(slices.Repeat([]string{"x"}, api.MaxCount)...))
	for _, into := range []api.V{v, full, columns("a", list())} {
		for _, rows := range noTables() {
			if rows.T != api.KDict || rows.L[0].T != api.KSym {
				refused(t, api.ErrType)(table.Insert(into, rows))
			}
		}
		for _, rows := range []api.V{row("a b a", ints(1, 2, 1)), row("a a", ints(1, 1)), row("q z z", ints(1, 2, 3)), pairs(list(), list()), pairs(ints(), ints()), pairs(list(symbol("a"), ints(1)), ints(1, 2)), pairs(list(symbols("a"), symbols("b")), ints(1, 2)), pairs(v, v)} {
			refused(t, api.ErrType)(table.Insert(into, rows))
		}
		for _, rows := range []api.V{row("", list()), row("", ints()), row("b", ints(1)), row("a b c", ints(1, 2, 3)), row("a c", ints(1, 2)), row("A b", symbols("x", "y")), pairs(symbols("a", ""), ints(1, 2)), columns("b", ints(1)), columns("b", ints()), columns("a b c", ints(), symbols(), ints()), columns("a c", ints(1), symbols("x")), columns("c b", times(1), symbols("x"))} {
			refused(t, api.ErrSchema)(table.Insert(into, rows))
		}
	}
	for _, into := range []api.V{v, full, columns("a b", ints(), symbols())} {
		for _, x := range []api.V{dec(1), at(1), truth(1), symbol("x"), ints(1), ints(), list(), list(ints(1)), small(), lambda("{x}"), pairs(ints(1), ints(2))} {
			refused(t, api.ErrType)(table.Insert(into, row("a b", both(x, symbol("x")))))
			refused(t, api.ErrType)(table.Insert(into, row("b a", both(symbol("x"), x))))
			refused(t, api.ErrType)(table.Insert(into, columns("b a", symbols("x"), only(x))))
		}
		for _, x := range []api.V{one(1), symbols("x"), symbols(), list(), list(symbols("x"))} {
			refused(t, api.ErrType)(table.Insert(into, row("a b", both(one(1), x))))
			refused(t, api.ErrType)(table.Insert(into, columns("a b", ints(1), only(x))))
		}
		for _, none := range []api.V{list(), times(), decs(), bools(), symbols()} {
			refused(t, api.ErrType)(table.Insert(into, columns("a b", none, symbols())))
		}
	}
	refused(t, api.ErrType)(table.Insert(columns("a", symbols("x")), row("a", list(symbols("y")))))
	refused(t, api.ErrMany)(table.Insert(full, row("a b", list(one(1), symbol("x")))))
	refused(t, api.ErrMany)(table.Insert(full, v))
	refused(t, api.ErrMany)(table.Insert(v, full))
	refused(t, api.ErrMany)(table.Insert(full, full))
	made(t, full)(table.Insert(full, columns("b a", symbols(), ints())))
	made(t, full)(table.Insert(columns("a b", ints(), symbols()), full))
	short := columns("a b", til(api.MaxCount-1), symbols(full.L[1].S[1:]...))
	made(t, full)(table.Insert(short, row("a b", list(one(api.MaxCount-1), symbol("x")))))
	refused(t, api.ErrMany)(table.Insert(short, columns("a b", ints(1, 2), symbols("x", "x"))))
}

// TestInsertNames: P11.5: a dictionary of as many keys as there may be.
func TestInsertNames(t *testing.T) {
	names := make([]string, api.MaxCount)
	for i := range names {
		names[i] = "n" + string(rune('a'+i%26)) + string(rune(0x100+i/26))
	}
	refused(t, api.ErrSchema)(table.Insert(small(), pairs(symbols(names...), til(api.MaxCount))))
	names[api.MaxCount-1] = names[0]
	refused(t, api.ErrType)(table.Insert(small(), pairs(symbols(names...), til(api.MaxCount))))
}

// TestUpdate: P11.6: columns that are vectors.
func TestUpdate(t *testing.T) {
	v := small()
	made(t, columns("a b", ints(7, 2, 8), v.L[1]))(table.Update(v, "a", []int{0, 2}, ints(7, 8)))
	made(t, columns("a b", ints(8, 2, 7), v.L[1]))(table.Update(v, "a", []int{2, 0}, ints(7, 8)))
	made(t, columns("a b", ints(1, 9, 3), v.L[1]))(table.Update(v, "a", []int{1, 1, 1}, ints(7, 8, 9)))
	made(t, columns("a b", ints(1, 9, 7), v.L[1]))(table.Update(v, "a", []int{1, 2, 1}, ints(8, 7, 9)))
	made(t, columns("a b", ints(1, 5, 5), v.L[1]))(table.Update(v, "a", []int{1, 2, 1}, one(5)))
	made(t, columns("a b", ints(1, null, 3), v.L[1]))(table.Update(v, "a", []int{1}, ints(null)))
	made(t, columns("a b", v.L[0], symbols("q", "y", "")))(table.Update(v, "b", []int{2, 0}, symbols("", "q")))
	made(t, columns("a b", v.L[0], symbols("q", "q", "q")))(table.Update(v, "b", []int{2, 0, 1}, symbol("q")))
	made(t, v)(table.Update(v, "a", nil, one(5)))
	made(t, v)(table.Update(v, "a", []int{}, ints()))
	made(t, v)(table.Update(v, "b", nil, symbols()))
	made(t, columns("a", ints()))(table.Update(columns("a", ints()), "a", nil, one(5)))
	made(t, columns("a", ints(5, 2)))(table.Update(columns("a", ints(1, 2)), "a", make([]int, 2*api.MaxCount), one(5)))
	for _, x := range []api.V{truth(1), at(5), dec(5)} {
		made(t, columns("a b", vector(-x.T, 0, x.N[0]), ints(1, 2)))(table.Update(columns("a b", vector(-x.T, 0, 0), ints(1, 2)), "a", []int{1}, x))
		made(t, columns("a b", vector(-x.T, 0, x.N[0]), ints(1, 2)))(table.Update(columns("a b", vector(-x.T, 0, 0), ints(1, 2)), "a", []int{1}, only(x)))
	}
}

// TestUpdateLists: P11.6: columns that are lists, which may become vectors.
func TestUpdateLists(t *testing.T) {
	v := columns("a b", list(one(1), symbol("x"), ints(1, 2)), ints(1, 2, 3))
	for _, x := range append(atoms(), atoms()...) {
		made(t, columns("a b", list(x, symbol("x"), ints(1, 2)), v.L[1]))(table.Update(v, "a", []int{0}, x))
		made(t, columns("a b", list(x, symbol("x"), ints(1, 2)), v.L[1]))(table.Update(v, "a", []int{0}, only(x)))
		many := api.V{T: -x.T, N: slices.Repeat(x.N, 3), S: slices.Repeat(x.S, 3)}
		made(t, columns("a b", many, v.L[1]))(table.Update(v, "a", []int{0, 1, 2}, x))
		made(t, columns("a b", many, v.L[1]))(table.Update(v, "a", []int{2, 0, 1}, many))
	}
	made(t, columns("a b", ints(1, 7, 8), v.L[1]))(table.Update(v, "a", []int{1, 2}, ints(7, 8)))
	made(t, columns("a b", symbols("y", "x", "z"), v.L[1]))(table.Update(v, "a", []int{2, 0}, symbols("z", "y")))
	made(t, columns("a b", list(one(1), ints(), small()), v.L[1]))(table.Update(v, "a", []int{1, 2}, list(ints(), small())))
	made(t, columns("a b", list(one(1), list(), ints(1, 2)), v.L[1]))(table.Update(v, "a", []int{1, 1}, list(small(), list())))
	for _, none := range []api.V{one(1), ints(), list(), symbols(), symbol("x")} {
		made(t, v)(table.Update(v, "a", nil, none))
		made(t, columns("a", list()))(table.Update(columns("a", list()), "a", nil, none))
	}
	deepest := deep(api.MaxDepth - 2)
	made(t, columns("a", list(deepest)))(table.Update(columns("a", list(ints(1))), "a", []int{0}, list(deepest)))
	refused(t, api.ErrMany)(table.Update(columns("a", list(ints(1))), "a", []int{0}, deep(api.MaxDepth)))
}

// TestUpdateErrors: P11.6: the errors, and which comes first.
func TestUpdateErrors(t *testing.T) {
	v := columns("a b c", ints(1, 2, 3), symbols("x", "y", "x"), list(one(1), symbol("x"), ints(1)))
	for _, name := range append(noNames(), "z", "ab") {
		for _, x := range []api.V{one(1), ints(1, 2), nothing()} {
			refused(t, api.ErrColumn)(table.Update(v, name, []int{0}, x))
			refused(t, api.ErrColumn)(table.Update(v, name, []int{3}, x))
		}
	}
	for _, place := range []int{3, -1, 1 << 32, 1 << 40, -1 << 63, 1<<63 - 1} {
		for _, x := range []api.V{one(1), ints(1), ints(1, 2, 3), symbol("x"), nothing()} {
			for _, name := range v.S {
				refused(t, api.ErrRange)(table.Update(v, name, []int{place}, x))
				refused(t, api.ErrRange)(table.Update(v, name, []int{0, 1, place}, x))
			}
		}
	}
	refused(t, api.ErrRange)(table.Update(columns("a", ints()), "a", []int{0}, one(1)))
	for _, places := range [][]int{nil, {0}, {0, 1}, {0, 1, 2}} {
		for _, x := range wholes() {
			for _, name := range v.S {
				refused(t, api.ErrType)(table.Update(v, name, places, x))
			}
		}
		for _, x := range []api.V{truth(1), at(1), dec(1), bools(1), times(1), decs(1), list(), list(ints(1)), decs(), bools()} {
			refused(t, api.ErrType)(table.Update(v, "a", places, x))
			refused(t, api.ErrType)(table.Update(v, "b", places, x))
		}
		for _, x := range []api.V{ints(), ints(1)} {
			refused(t, api.ErrType)(table.Update(v, "b", places, x))
		}
		for _, x := range []api.V{symbols(), symbols("x"), symbol("")} {
			refused(t, api.ErrType)(table.Update(v, "a", places, x))
		}
		for _, count := range []int{0, 1, 2, 3, 4} {
			if count != len(places) {
				refused(t, api.ErrLength)(table.Update(v, "a", places, til(count)))
				refused(t, api.ErrLength)(table.Update(v, "b", places, symbols(make([]string, count)...)))
				refused(t, api.ErrLength)(table.Update(v, "c", places, til(count)))
				refused(t, api.ErrLength)(table.Update(v, "c", places, list(slices.Repeat([]api.V{list()}, count)...)))
			}
		}
	}
	refused(t, api.ErrLength)(table.Update(v, "c", []int{0, 1}, deep(api.MaxDepth)))
}
