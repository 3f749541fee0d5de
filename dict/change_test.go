package dict_test

import (
	"slices"
	"testing"

	"quiver/api"
	"quiver/dict"
	"quiver/value"
)

func wantAppend(t *testing.T, v, x, want api.V, wantE api.Errno) {
	t.Helper()
	got, e := dict.Append(v, x)
	wants(t, got, e, want, wantE, "Append", v, x)
}

func wantPut(t *testing.T, d, x, y, want api.V, wantE api.Errno) {
	t.Helper()
	got, e := dict.Put(d, x, y)
	wants(t, got, e, want, wantE, "Put", d, x, y)
}

func wantDrop(t *testing.T, want, d api.V, x ...api.V) {
	t.Helper()
	got, e := dict.Drop(d, x...)
	wants(t, got, e, want, api.OK, "Drop", append([]api.V{d}, x...)...)
}

func wantJoin(t *testing.T, want api.V, l ...api.V) {
	t.Helper()
	got, e := dict.Join(l...)
	wants(t, got, e, want, api.OK, "Join", l...)
}

func wantJoinError(t *testing.T, want api.Errno, l ...api.V) {
	t.Helper()
	got, e := dict.Join(l...)
	wants(t, got, e, api.V{}, want, "Join", l...)
}

// TestAppend: P10.2.
func TestAppend(t *testing.T) {
	for _, c := range []struct{ v, x, want api.V }{
		{ints(1, 2), one(3), ints(1, 2, 3)},
		{ints(), one(null), ints(null)},
		{symbols("a"), symbol(""), symbols("a", "")},
		{bools(0), truth(1), bools(0, 1)},
		{times(5), at(5), times(5, 5)},
		{decs(), dec(1), decs(1)},
		{ints(1), dec(1), list(one(1), dec(1))},
		{ints(1, 2), ints(3), list(one(1), one(2), ints(3))},
		{ints(), ints(), list(ints())},
		{ints(), symbol("a"), symbols("a")}, // value.Of of one atom
		{symbols(), one(1), ints(1)},
		{symbols("a"), list(), list(symbol("a"), list())},
		{list(), one(1), ints(1)},
		{list(), symbols("a"), list(symbols("a"))},
		{list(), list(), list(list())},
		{list(ints(1)), one(1), list(ints(1), one(1))},
		{list(one(1), symbol("a")), symbol("a"), list(one(1), symbol("a"), symbol("a"))},
		{times(1), table("a", ints(1)), list(at(1), table("a", ints(1)))},
		{list(), pairs(ints(1), ints(2)), list(pairs(ints(1), ints(2)))},
		{bools(), lambda("{x}"), list(lambda("{x}"))},
	} {
		wantAppend(t, c.v, c.x, c.want, api.OK)
	}
	full := til(api.MaxCount)
	short := ints(full.N[:api.MaxCount-1]...)
	wantAppend(t, short, one(api.MaxCount-1), full, api.OK)
	wantAppend(t, deep(api.MaxDepth), one(1), list(deep(api.MaxDepth-1), one(1)), api.OK)
	wantAppend(t, ints(1), deep(api.MaxDepth-1), list(one(1), deep(api.MaxDepth-1)), api.OK)
}

// TestAppendErrors: P10.2.
func TestAppendErrors(t *testing.T) {
	for _, v := range noSequences() {
		for _, x := range []api.V{one(1), v, nothing(), deep(api.MaxDepth)} {
			wantAppend(t, v, x, api.V{}, api.ErrType)
		}
	}
	full := til(api.MaxCount)
	mixed := value.Of(append(elements(ints(full.N[1:]...)), symbol("a"))...)
	for _, v := range []api.V{ints(), ints(1), list(), full, mixed} {
		wantAppend(t, v, nothing(), api.V{}, api.ErrType)
	}
	for _, v := range []api.V{full, mixed} {
		for _, x := range []api.V{one(1), symbol("a"), ints(), deep(api.MaxDepth)} {
			wantAppend(t, v, x, api.V{}, api.ErrMany)
		}
	}
	wantAppend(t, ints(1), deep(api.MaxDepth), api.V{}, api.ErrMany)
	wantAppend(t, list(), deep(api.MaxDepth), api.V{}, api.ErrMany)
	wantAppend(t, list(), pairs(ints(1), deep(api.MaxDepth-1)), api.V{}, api.ErrMany)
	wantAppend(t, deep(api.MaxDepth), deep(api.MaxDepth), api.V{}, api.ErrMany)
}

// TestPut: P10.4: at a key that is there, and at a new one.
func TestPut(t *testing.T) {
	for _, c := range []struct{ d, x, y, want api.V }{
		{pairs(symbols("a", "b", "a"), ints(1, 2, 3)), symbol("a"), one(9), pairs(symbols("a", "b", "a"), ints(9, 2, 3))},
		{pairs(symbols("a", "b"), ints(1, 2)), symbol("b"), symbol("x"), pairs(symbols("a", "b"), list(one(1), symbol("x")))},
		{pairs(symbols("a", "b"), ints(1, 2)), symbol("b"), ints(2), pairs(symbols("a", "b"), list(one(1), ints(2)))},
		{pairs(symbols("a", "b"), list(one(1), symbol("x"))), symbol("b"), one(2), pairs(symbols("a", "b"), ints(1, 2))},
		{pairs(symbols("a", "b"), list(one(1), symbol("x"))), symbol("a"), symbol("y"), pairs(symbols("a", "b"), symbols("y", "x"))},
		{pairs(symbols("a"), ints(1)), symbol("a"), symbol("x"), pairs(symbols("a"), symbols("x"))},
		{pairs(symbols("a"), ints(1)), symbol("a"), list(), pairs(symbols("a"), list(list()))},
		{pairs(symbols("a"), symbols("x")), symbol("a"), symbol(""), pairs(symbols("a"), symbols(""))},
		{pairs(ints(1, null), decs(1, 2)), one(null), dec(3), pairs(ints(1, null), decs(1, 3))},
		{pairs(list(ints(1), one(1)), times(1, 2)), ints(1), at(3), pairs(list(ints(1), one(1)), times(3, 2))},
		{pairs(symbols("a"), ints(1)), symbol("b"), one(2), pairs(symbols("a", "b"), ints(1, 2))},
		{pairs(symbols("a"), ints(1)), symbol("b"), dec(2), pairs(symbols("a", "b"), list(one(1), dec(2)))},
		{pairs(symbols("a"), ints(1)), one(2), one(2), pairs(list(symbol("a"), one(2)), ints(1, 2))},
		{pairs(symbols("a"), ints(1)), symbols("a"), one(2), pairs(list(symbol("a"), symbols("a")), ints(1, 2))},
		{pairs(ints(1, 2), bools(1, 0)), dec(1), truth(1), pairs(list(one(1), one(2), dec(1)), bools(1, 0, 1))},
		{pairs(list(), list()), symbol("a"), one(1), pairs(symbols("a"), ints(1))},
		{pairs(ints(), symbols()), symbol("a"), one(1), pairs(symbols("a"), ints(1))},
		{pairs(ints(), symbols()), list(), table("a", ints(1)), pairs(list(list()), list(table("a", ints(1))))},
	} {
		wantPut(t, c.d, c.x, c.y, c.want, api.OK)
	}
}

// TestPutErrors: P10.4.
func TestPutErrors(t *testing.T) {
	d := pairs(symbols("a"), ints(1))
	for _, x := range []api.V{symbol("a"), symbol("b"), deep(api.MaxDepth)} {
		wantPut(t, d, x, nothing(), api.V{}, api.ErrType)
		wantPut(t, d, nothing(), x, api.V{}, api.ErrType)
	}
	full := pairs(til(api.MaxCount), til(api.MaxCount))
	wantPut(t, full, nothing(), one(1), api.V{}, api.ErrType)
	wantPut(t, full, one(-1), nothing(), api.V{}, api.ErrType)
	for _, x := range []api.V{one(-1), one(api.MaxCount), symbol("a"), ints(1)} {
		wantPut(t, full, x, one(1), api.V{}, api.ErrMany)
	}
	changed := til(api.MaxCount)
	changed.N[5] = -5
	wantPut(t, full, one(5), one(-5), pairs(full.L[0], changed), api.OK)
	changed.N[5] = 5
	changed.N[api.MaxCount-1] = 0
	short := ints(full.L[0].N[:api.MaxCount-1]...)
	wantPut(t, pairs(short, short), one(api.MaxCount-1), one(0), pairs(full.L[0], changed), api.OK)
	for _, depth := range []int{api.MaxDepth, api.MaxDepth - 1} { // the dictionary, and the list within, are one more each
		wantPut(t, d, symbol("a"), deep(depth), api.V{}, api.ErrMany)
		wantPut(t, d, symbol("b"), deep(depth), api.V{}, api.ErrMany)
		wantPut(t, d, deep(depth), one(1), api.V{}, api.ErrMany)
	}
	most := deep(api.MaxDepth - 2)
	wantPut(t, d, symbol("a"), most, pairs(symbols("a"), list(most)), api.OK)
	wantPut(t, d, symbol("b"), most, pairs(symbols("a", "b"), list(one(1), most)), api.OK)
	wantPut(t, d, most, one(2), pairs(list(symbol("a"), most), ints(1, 2)), api.OK)
	wantPut(t, pairs(list(most), ints(1)), most, one(2), pairs(list(most), ints(2)), api.OK)
}

// TestDrop: P10.4.
func TestDrop(t *testing.T) {
	a, b, q := symbol("a"), symbol("b"), symbol("q")
	d := pairs(symbols("a", "b", "a", "c"), ints(1, 2, 3, 4))
	wantDrop(t, d, d)
	wantDrop(t, d, d, q, one(1), symbols("a"), list(), nothing())
	wantDrop(t, pairs(symbols("b", "a", "c"), ints(2, 3, 4)), d, a)
	wantDrop(t, pairs(symbols("b", "c"), ints(2, 4)), d, a, a)
	wantDrop(t, pairs(symbols("b", "c"), ints(2, 4)), d, a, q, a, a, nothing(), a)
	wantDrop(t, pairs(symbols("a", "c"), ints(3, 4)), d, b, a)
	wantDrop(t, pairs(symbols("a", "c"), ints(3, 4)), d, a, b)
	wantDrop(t, pairs(symbols(), ints()), d, a, b, a, symbol("c"), a)
	wantDrop(t, pairs(symbols(), ints()), pairs(symbols("a"), ints(1)), a)
	for _, empty := range []api.V{pairs(list(), list()), pairs(ints(), list()), pairs(symbols(), times())} {
		wantDrop(t, empty, empty)
		wantDrop(t, empty, empty, a, one(1), list())
	}
	// A list that all but atoms of one type have left is a vector.
	mixed := pairs(list(one(1), a, one(2)), list(at(5), at(6), ints(7)))
	wantDrop(t, pairs(ints(1, 2), list(at(5), ints(7))), mixed, a)
	wantDrop(t, pairs(list(one(1), a), times(5, 6)), mixed, one(2))
	wantDrop(t, pairs(list(a, one(2)), list(at(6), ints(7))), mixed, one(1))
	wantDrop(t, pairs(ints(1), times(5)), mixed, a, one(2))
	wantDrop(t, pairs(ints(2), list(ints(7))), mixed, a, one(1))
}

// TestDropAll: P10.4: one goes after the other, so that the last one to go tells of what there is nothing.
func TestDropAll(t *testing.T) {
	a := symbol("a")
	mixed := pairs(list(one(1), a, ints(2)), list(at(5), ints(7), symbol("x")))
	for _, c := range []struct {
		want api.V
		x    []api.V
	}{
		{pairs(list(), symbols()), []api.V{one(1), a, ints(2)}},
		{pairs(list(), symbols()), []api.V{a, one(1), ints(2), a}},
		{pairs(symbols(), list()), []api.V{one(1), ints(2), a}},
		{pairs(symbols(), list()), []api.V{ints(2), one(2), one(1), a, one(1)}},
		{pairs(ints(), times()), []api.V{a, ints(2), one(1)}},
		{pairs(ints(), times()), []api.V{ints(2), a, ints(2), one(1), symbol("q")}},
	} {
		wantDrop(t, c.want, mixed, c.x...)
	}
	wantDrop(t, pairs(list(), list()), pairs(list(ints(1)), list(ints(1))), ints(1))
	wantDrop(t, pairs(symbols(), decs()), pairs(symbols("a", "a"), decs(1, 2)), a, a)
}

// TestJoin: P10.5.
func TestJoin(t *testing.T) {
	wantJoin(t, pairs(list(), list()))
	empty := pairs(ints(), symbols())
	d := pairs(symbols("a", "b", "a"), ints(1, 2, 3))
	for _, x := range []api.V{d, empty, pairs(list(), list()), pairs(symbols(), list()), pairs(list(one(1), symbol("a")), bools(0, 1))} {
		wantJoin(t, x, x) // itself, whatever comes twice, and of whatever it is empty
		wantJoin(t, x, x, empty)
		wantJoin(t, x, x, empty, pairs(list(), decs()), pairs(list(), list()))
	}
	wantJoin(t, pairs(symbols("a", "b", "a"), ints(3, 2, 3)), d, d)
	wantJoin(t, pairs(symbols("a", "b", "a", "c"), ints(9, 2, 3, 6)), d, pairs(symbols("c", "a", "c"), ints(5, 8, 6)), pairs(symbols("a"), ints(9)))
	wantJoin(t, pairs(symbols("a", "b", "a", "c"), list(one(1), one(2), one(3), symbol("x"))), d, pairs(symbols("c"), symbols("x")))
	wantJoin(t, pairs(symbols("a", "b"), symbols("x", "y")), pairs(symbols("a", "b"), ints(1, 2)), pairs(symbols("b", "a"), symbols("y", "x")))
	wantJoin(t, pairs(symbols("a", "b"), ints(1, 5)), pairs(symbols("a", "b"), list(one(1), symbol("x"))), pairs(symbols("b"), ints(5)))
	wantJoin(t, pairs(symbols("a", "b"), ints(3, 2)), empty, pairs(symbols("a", "b", "a"), ints(1, 2, 3)))
	wantJoin(t, pairs(symbols("a", "b"), ints(1, 2)), empty, pairs(symbols("a"), ints(1)), empty, pairs(symbols("b"), ints(2)))
	wantJoin(t, pairs(list(symbol("a"), one(1), symbols("a")), list(ints(1), one(7), list())), pairs(symbols("a"), list(ints(1))), pairs(ints(1), ints(7)), pairs(list(symbols("a")), list(list())))
}

// TestJoinErrors: P10.5: the first error, as they come.
func TestJoinErrors(t *testing.T) {
	d := pairs(symbols("a"), ints(1))
	full := pairs(til(api.MaxCount), til(api.MaxCount))
	for _, x := range noDicts() {
		wantJoinError(t, api.ErrType, x)
		wantJoinError(t, api.ErrType, x, d)
		wantJoinError(t, api.ErrType, d, x)
		wantJoinError(t, api.ErrType, d, d, x, d)
		wantJoinError(t, api.ErrType, x, x)
	}
	no := one(1)
	wantJoinError(t, api.ErrMany, full, d)
	wantJoinError(t, api.ErrMany, d, full)
	wantJoinError(t, api.ErrMany, full, full, d, full)
	wantJoinError(t, api.ErrMany, full, d, no)
	wantJoinError(t, api.ErrMany, full, d, no, d, no)
	wantJoinError(t, api.ErrType, full, no, d)
	wantJoinError(t, api.ErrType, no, full, d)
	wantJoin(t, full, full, full, full)
	short := ints(full.L[0].N[1:]...)
	wantJoin(t, pairs(ints(append(slices.Clone(short.N), 0)...), ints(append(slices.Clone(short.N), 0)...)), pairs(short, short), full)
	most := deep(api.MaxDepth - 1)
	wantJoin(t, pairs(list(one(1), most.L[0]), ints(2, 3)), pairs(ints(1), ints(2)), pairs(most, ints(3)))
}
