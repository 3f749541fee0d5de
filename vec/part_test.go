package vec_test

import (
	"math"
	"slices"
	"testing"

	"quiver/api"
	"quiver/value"
	"quiver/vec"
)

func wantWhere(t *testing.T, v, want api.V) {
	t.Helper()
	got, e := vec.Where(v)
	wants(t, got, e, want, api.OK, "Where", v)
}

func wantTake(t *testing.T, n int64, v, want api.V) {
	t.Helper()
	got, e := vec.Take(n, v)
	wants(t, got, e, want, api.OK, "Take", one(n), v)
}

func wantDrop(t *testing.T, n int64, v, want api.V) {
	t.Helper()
	got, e := vec.Drop(n, v)
	wants(t, got, e, want, api.OK, "Drop", one(n), v)
}

func wantReverse(t *testing.T, v, want api.V) {
	t.Helper()
	got, e := vec.Reverse(v)
	wants(t, got, e, want, api.OK, "Reverse", v)
}

func wantIndex(t *testing.T, want, v api.V, at ...int64) {
	t.Helper()
	got, e := vec.Index(v, at...)
	wants(t, got, e, want, api.OK, "Index", v, ints(at...))
}

func wantJoin(t *testing.T, want api.V, l ...api.V) {
	t.Helper()
	got, e := vec.Join(l...)
	wants(t, got, e, want, api.OK, "Join", l...)
}

func wantJoinError(t *testing.T, want api.Errno, l ...api.V) {
	t.Helper()
	got, e := vec.Join(l...)
	wants(t, got, e, api.V{}, want, "Join", l...)
}

// many is so many numbers, all of them n.
func many(n int64, count int) []int64 { return slices.Repeat([]int64{n}, count) }

// TestTil: P7.6.
func TestTil(t *testing.T) {
	for n, want := range []api.V{ints(), ints(0), ints(0, 1), ints(0, 1, 2)} {
		v, e := vec.Til(int64(n))
		wants(t, v, e, want, api.OK, "Til", one(int64(n)))
	}
	v, e := vec.Til(api.MaxCount)
	is(t, "Til", e, api.OK)
	is(t, "Til", len(v.N), api.MaxCount)
	for i, n := range v.N {
		is(t, "Til", n, int64(i))
	}
	for _, n := range []int64{-1, -2, least, null} {
		v, e := vec.Til(n)
		wants(t, v, e, api.V{}, api.ErrArg, "Til", one(n))
	}
	for _, n := range []int64{api.MaxCount + 1, 1 << 32, greatest} {
		v, e := vec.Til(n)
		wants(t, v, e, api.V{}, api.ErrMany, "Til", one(n))
	}
}

// TestWhere: P7.6.
func TestWhere(t *testing.T) {
	wantWhere(t, bools(1, 0, 1, 1), ints(0, 2, 3))
	wantWhere(t, bools(0, 0), ints())
	wantWhere(t, bools(), ints())
	wantWhere(t, ints(), ints())
	wantWhere(t, ints(0, 3, 1, 0, 2), ints(1, 1, 1, 2, 4, 4))
	wantWhere(t, ints(api.MaxCount), ints(many(0, api.MaxCount)...))
	wantWhere(t, ints(0, api.MaxCount-1, 1), ints(append(many(1, api.MaxCount-1), 2)...))
	wantWhere(t, ints(many(1, api.MaxCount)...), ints(til(api.MaxCount)...))
	wantWhere(t, bools(many(1, api.MaxCount)...), ints(til(api.MaxCount)...))
	for _, v := range append(others(), one(1), truth(1), at(1), times(1), times(), decs(0), decs(), dec(1), symbols("a"), symbols(), symbol("a"), list(), list(ints(1)), list(one(1), truth(1))) {
		got, e := vec.Where(v)
		wants(t, got, e, api.V{}, api.ErrType, "Where", v)
	}
	for _, v := range []api.V{ints(-1), ints(1, null), ints(0, least), ints(api.MaxCount, 1, -1), ints(greatest, greatest, null)} {
		got, e := vec.Where(v)
		wants(t, got, e, api.V{}, api.ErrArg, "Where", v)
	}
	for _, v := range []api.V{ints(api.MaxCount + 1), ints(greatest), ints(greatest, greatest, 2), ints(1, greatest), ints(1, api.MaxCount), ints(api.MaxCount, 0, 1), ints(append(many(1, api.MaxCount-1), 2)...), ints(1 << 32), ints(many(1<<48, api.MaxCount)...)} {
		got, e := vec.Where(v)
		wants(t, got, e, api.V{}, api.ErrMany, "Where", v)
	}
}

// til is the numbers ahead of n.
func til(n int) []int64 {
	l := make([]int64, n)
	for i := range l {
		l[i] = int64(i)
	}
	return l
}

// TestReverse: P7.7.
func TestReverse(t *testing.T) {
	wantReverse(t, ints(1, 2, 3), ints(3, 2, 1))
	wantReverse(t, symbols("a", "", "b"), symbols("b", "", "a"))
	wantReverse(t, bools(1, 0), bools(0, 1))
	wantReverse(t, times(1, null), times(null, 1))
	wantReverse(t, decs(5), decs(5))
	wantReverse(t, list(ints(1), one(2), table("a", ints())), list(table("a", ints()), one(2), ints(1)))
	for _, k := range []int{api.KList, api.KBool, api.KInt, api.KSym, api.KTime, api.KDec} {
		wantReverse(t, api.V{T: k}, api.V{T: k})
	}
	for _, v := range append(others(), one(1), symbol("a"), truth(1)) {
		got, e := vec.Reverse(v)
		wants(t, got, e, api.V{}, api.ErrType, "Reverse", v)
	}
}

// TestTake: P7.7.
func TestTake(t *testing.T) {
	wantTake(t, 0, ints(1, 2, 3), ints())
	wantTake(t, 2, ints(1, 2, 3), ints(1, 2))
	wantTake(t, 3, ints(1, 2, 3), ints(1, 2, 3))
	wantTake(t, 7, ints(1, 2, 3), ints(1, 2, 3, 1, 2, 3, 1))
	wantTake(t, -2, ints(1, 2, 3), ints(2, 3))
	wantTake(t, -3, ints(1, 2, 3), ints(1, 2, 3))
	wantTake(t, -7, ints(1, 2, 3), ints(3, 1, 2, 3, 1, 2, 3))
	wantTake(t, 3, symbols("a", "b"), symbols("a", "b", "a"))
	wantTake(t, -1, bools(1, 0), bools(0))
	wantTake(t, 0, list(ints(1), one(2)), list())
	wantTake(t, 1, list(one(1), ints(2)), ints(1)) // value.Of makes it a vector
	wantTake(t, -1, list(one(1), ints(2)), list(ints(2)))
	wantTake(t, 3, list(one(1), ints(2)), list(one(1), ints(2), one(1)))
	wantTake(t, 0, list(), list())
	wantTake(t, 2, list(), list(list(), list()))
	wantTake(t, -2, list(), list(list(), list()))
	for k, null := range map[int]api.V{api.KBool: truth(0), api.KInt: one(null), api.KSym: symbol(""), api.KTime: at(null), api.KDec: dec(null)} {
		wantTake(t, 0, value.Empty(k), value.Empty(k))
		wantTake(t, 2, value.Empty(k), value.Of(null, null))
		wantTake(t, -2, value.Empty(k), value.Of(null, null))
	}
	wantTake(t, api.MaxCount, ints(5), ints(many(5, api.MaxCount)...))
	wantTake(t, -api.MaxCount, ints(5), ints(many(5, api.MaxCount)...))
	wantTake(t, api.MaxCount, ints(), ints(many(null, api.MaxCount)...))
	for _, n := range []int64{api.MaxCount + 1, -api.MaxCount - 1, 1 << 32, -1 << 32, greatest, least, null} {
		for _, v := range []api.V{ints(), ints(1, 2), symbols("a"), list(), list(ints(1))} {
			got, e := vec.Take(n, v)
			wants(t, got, e, api.V{}, api.ErrMany, "Take", one(n), v)
		}
		for _, v := range append(others(), one(1), symbol("a")) {
			got, e := vec.Take(n, v)
			wants(t, got, e, api.V{}, api.ErrType, "Take", one(n), v)
			got, e = vec.Take(1, v)
			wants(t, got, e, api.V{}, api.ErrType, "Take", one(1), v)
			got, e = vec.Take(0, v)
			wants(t, got, e, api.V{}, api.ErrType, "Take", one(0), v)
		}
	}
}

// TestDrop: P7.7.
func TestDrop(t *testing.T) {
	wantDrop(t, 0, ints(1, 2, 3), ints(1, 2, 3))
	wantDrop(t, 1, ints(1, 2, 3), ints(2, 3))
	wantDrop(t, -1, ints(1, 2, 3), ints(1, 2))
	wantDrop(t, 3, ints(1, 2, 3), ints())
	wantDrop(t, -3, ints(1, 2, 3), ints())
	wantDrop(t, 1, list(ints(1), one(2), one(3)), ints(2, 3))
	wantDrop(t, -1, list(ints(1), one(2), one(3)), list(ints(1), one(2)))
	wantDrop(t, 3, list(ints(1), one(2), one(3)), list())
	wantDrop(t, 0, list(ints(1), one(2), one(3)), list(ints(1), one(2), one(3)))
	for _, n := range []int64{4, -4, api.MaxCount + 1, -api.MaxCount - 1, 1 << 32, -1 << 32, greatest, least, null} {
		wantDrop(t, n, ints(1, 2, 3), ints())
		wantDrop(t, n, symbols("a", "b"), symbols())
		wantDrop(t, n, list(ints(1)), list())
		for _, k := range []int{api.KList, api.KBool, api.KInt, api.KSym, api.KTime, api.KDec} {
			wantDrop(t, n, api.V{T: k}, api.V{T: k})
		}
		for _, v := range append(others(), one(1), symbol("a")) {
			got, e := vec.Drop(n, v)
			wants(t, got, e, api.V{}, api.ErrType, "Drop", one(n), v)
			got, e = vec.Drop(0, v)
			wants(t, got, e, api.V{}, api.ErrType, "Drop", one(0), v)
		}
	}
}

// TestIndex: P7.7.
func TestIndex(t *testing.T) {
	beside := []int64{-1, 3, 4, math.MinInt, math.MaxInt, 1 << 32, -1 << 32}
	for _, c := range []struct{ v, null api.V }{
		{bools(1, 1, 1), truth(0)}, {ints(1, 2, 3), one(null)}, {symbols("a", "b", "c"), symbol("")}, {times(1, 2, 3), at(null)}, {decs(1, 2, 3), dec(null)},
	} {
		wantIndex(t, value.Empty(c.v.T), c.v)
		wantIndex(t, value.Of(element(c.v, 2), element(c.v, 0), element(c.v, 2)), c.v, 2, 0, 2)
		wantIndex(t, value.Of(element(c.v, 1)), c.v, 1)
		for _, place := range beside {
			wantIndex(t, value.Of(c.null), c.v, place)
			wantIndex(t, value.Of(c.null, element(c.v, 0)), c.v, place, 0)
			wantIndex(t, value.Of(c.null), value.Empty(c.v.T), place)
		}
		wantIndex(t, value.Of(c.null), value.Empty(c.v.T), 0)
	}
	l := list(ints(1, 2), one(3), one(4))
	wantIndex(t, list(), l)
	wantIndex(t, list(), list())
	wantIndex(t, ints(3, 4, 3), l, 1, 2, 1)
	wantIndex(t, list(ints(1, 2), one(3)), l, 0, 1)
	wantIndex(t, list(list()), list(), 0)
	for _, place := range beside {
		wantIndex(t, list(one(3), list()), l, 1, place)
		wantIndex(t, list(list()), l, place)
	}
	wantIndex(t, ints(many(2, api.MaxCount)...), ints(1, 2), many(1, api.MaxCount)...)
	for _, v := range append(others(), one(1), truth(0), symbol("a")) {
		for _, at := range [][]int64{nil, {0}, {-1, 5}} {
			got, e := vec.Index(v, at...)
			wants(t, got, e, api.V{}, api.ErrType, "Index", v)
		}
	}
}

// TestJoin: P7.8.
func TestJoin(t *testing.T) {
	wantJoin(t, list())
	wantJoin(t, ints(1), one(1))
	wantJoin(t, ints(1, 2), one(1), one(2))
	wantJoin(t, ints(1, 2, 3), ints(1, 2), one(3), ints())
	wantJoin(t, symbols("a", "b", ""), symbol("a"), symbols(), symbols("b", ""))
	wantJoin(t, bools(1, 0), truth(1), truth(0))
	wantJoin(t, times(1, 2), times(1), times(2))
	for _, k := range []int{api.KBool, api.KInt, api.KSym, api.KTime, api.KDec} {
		wantJoin(t, value.Empty(k), value.Empty(k))
		wantJoin(t, value.Empty(k), value.Empty(k), value.Empty(k))
		wantJoin(t, list(), value.Empty(k), list())
	}
	wantJoin(t, list(), ints(), symbols())
	wantJoin(t, list(), list(), list())
	wantJoin(t, symbols("a"), ints(), symbol("a")) // value.Of of the one element
	wantJoin(t, ints(1, 2), list(), ints(1, 2))
	wantJoin(t, ints(1, 2), symbols(), one(1), one(2))
	wantJoin(t, list(one(1), dec(2)), one(1), dec(2))
	wantJoin(t, list(one(1), one(2), truth(1), truth(0)), ints(1, 2), bools(1, 0))
	wantJoin(t, list(ints(1, 2), one(3), one(4), one(5)), list(ints(1, 2), one(3)), ints(4, 5))
	wantJoin(t, list(one(4), ints(1, 2), one(3)), one(4), list(ints(1, 2), one(3)))
	wantJoin(t, list(ints(1), ints(2)), list(ints(1)), list(ints(2)))
	tab := table("a", ints(1, 2))
	d := dict(ints(1, 2), ints(3, 4))
	wantJoin(t, list(tab), tab)
	wantJoin(t, list(d), d)
	wantJoin(t, list(dict(tab, tab)), dict(tab, tab))
	wantJoin(t, list(lambda("{x}")), lambda("{x}"))
	wantJoin(t, list(one(1), tab, d, lambda("{x}"), one(2)), one(1), tab, d, lambda("{x}"), one(2))
	wantJoin(t, list(tab, tab), list(tab), tab)
}

// TestJoinMany: P7.8: more elements than there may be, ahead of nothing; and deeper than it may be.
func TestJoinMany(t *testing.T) {
	most := ints(many(1, api.MaxCount)...)
	wantJoin(t, most, most)
	wantJoin(t, most, most, ints(), ints())
	wantJoin(t, most, most, list(), symbols())
	got, e := vec.Join(ints(many(1, api.MaxCount-1)...), symbol("a"))
	is(t, "Join", e, api.OK)
	is(t, "Join", len(got.L), api.MaxCount)
	wantJoinError(t, api.ErrMany, most, one(1))
	wantJoinError(t, api.ErrMany, most, most)
	wantJoinError(t, api.ErrMany, symbol("a"), most)
	wantJoinError(t, api.ErrMany, most, table("a", ints()))
	wantJoinError(t, api.ErrMany, most, one(1), nothing())
	wantJoinError(t, api.ErrType, nothing())
	wantJoinError(t, api.ErrType, one(1), nothing())
	wantJoinError(t, api.ErrType, nothing(), ints(1), nothing())
	deepest := nest(list(), api.MaxDepth-1)
	wantJoin(t, deepest, deepest)
	wantJoin(t, list(deepest.L[0], one(1)), deepest, one(1))
	flat := dict(ints(1), list(nest(list(), api.MaxDepth-4)))
	wantJoin(t, list(flat), flat)
	for _, v := range []api.V{dict(ints(1), list(nest(list(), api.MaxDepth-3))), table("a", list(nest(list(), api.MaxDepth-3)))} {
		is(t, told(v), value.Check(v), api.OK)
		is(t, told(v), value.Depth(v), api.MaxDepth)
		wantJoinError(t, api.ErrMany, v)
		wantJoinError(t, api.ErrMany, one(1), v)
		wantJoinError(t, api.ErrType, v, nothing())
	}
}

// sequence draws a vector or a list.
func sequence(draw func(int) int) api.V {
	count := draw(5)
	if k := draw(7); k >= api.KBool && k <= api.KDec {
		return flat(draw, k, count)
	}
	l := list()
	few := append(others()[:6], ints(1, 2), one(1), symbol("a"), list(), list(ints(1)))
	for range count {
		l.L = append(l.L, few[draw(len(few))])
	}
	return value.Of(l.L...)
}

// elements are those of a sequence.
func elements(v api.V) []api.V {
	if v.T == api.KList {
		return v.L
	}
	var l []api.V
	for i := range value.Count(v) {
		l = append(l, element(v, i))
	}
	return l
}

// like is the sequence of these elements, of v's type, if v is a vector.
func like(v api.V, l []api.V) api.V {
	if len(l) == 0 {
		return api.V{T: v.T}
	}
	return value.Of(l...)
}

// nullOf is what is taken where nothing is.
func nullOf(v api.V) api.V {
	switch v.T {
	case api.KList:
		return list()
	case api.KBool:
		return truth(0)
	case api.KSym:
		return symbol("")
	}
	return atom(v.T, null)
}

// wantTaken is n elements, one by one, from the beginning on, and again.
func wantTaken(l []api.V, n int, null api.V) []api.V {
	var taken []api.V
	for len(taken) < n {
		if len(l) == 0 {
			taken = append(taken, null)
		}
		taken = append(taken, l[:min(len(l), n-len(taken))]...)
	}
	return taken
}

func turned(l []api.V) []api.V {
	l = slices.Clone(l)
	slices.Reverse(l)
	return l
}

// TestParts: P7.7: drawn sequences, taken apart element by element.
func TestParts(t *testing.T) {
	draw := draws(81)
	for range 20000 {
		v := sequence(draw)
		l := elements(v)
		wantReverse(t, v, like(v, turned(l)))
		n := draw(9)
		wantTake(t, int64(n), v, like(v, wantTaken(l, n, nullOf(v))))
		wantTake(t, int64(-n), v, like(v, turned(wantTaken(turned(l), n, nullOf(v)))))
		wantDrop(t, int64(n), v, like(v, l[min(n, len(l)):]))
		wantDrop(t, int64(-n), v, like(v, l[:max(0, len(l)-n)]))
		var at []int64
		var picked []api.V
		for range draw(5) {
			place := draw(7) - 1
			at = append(at, int64(place))
			if place >= 0 && place < len(l) {
				picked = append(picked, l[place])
			} else {
				picked = append(picked, nullOf(v))
			}
		}
		wantIndex(t, like(v, picked), v, at...)
	}
}

// TestJoined: P7.8: drawn values, one behind the other.
func TestJoined(t *testing.T) {
	draw := draws(82)
	vectors := 0
	for range 30000 {
		var l, all []api.V
		kinds := map[int]bool{}
		only := draw(6)
		for range draw(4) {
			v := sequence(draw)
			switch draw(3) {
			case 0:
				v = flat(draw, max(only, 1), draw(4))
			case 1:
				v = append(elements(v), others()[draw(6)])[0]
			}
			l = append(l, v)
			kinds[max(v.T, -v.T)] = true
			if v.T >= api.KList && v.T <= api.KDec {
				all = append(all, elements(v)...)
			} else {
				all = append(all, v)
			}
		}
		want := value.Of(all...)
		if len(all) == 0 && len(l) > 0 && len(kinds) == 1 {
			want = api.V{T: l[0].T}
		}
		if want.T != api.KList {
			vectors++
		}
		wantJoin(t, want, l...)
	}
	is(t, "some are vectors", vectors > 1000, true)
}

// TestThereAndBack: P7.12.
func TestThereAndBack(t *testing.T) {
	draw := draws(83)
	for range 10000 {
		v := sequence(draw)
		for n := range value.Count(v) + 1 {
			taken, e := vec.Take(int64(n), v)
			is(t, "Take", e, api.OK)
			rest, e := vec.Drop(int64(n), v)
			is(t, "Drop", e, api.OK)
			wantJoin(t, v, taken, rest)
		}
		turned, e := vec.Reverse(v)
		is(t, "Reverse", e, api.OK)
		wantReverse(t, turned, v)
		places, e := vec.Where(bools(many(1, value.Count(v))...))
		is(t, "Where", e, api.OK)
		wantIndex(t, v, v, places.N...)
	}
}
