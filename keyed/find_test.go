package keyed_test

import (
	"slices"
	"strconv"
	"testing"

	"quiver/api"
	"quiver/keyed"
)

// TestFind: P12.2: the first row that has the key.
func TestFind(t *testing.T) {
	k := small()
	wantFind(t, k, 0, one(1))
	wantFind(t, k, 1, one(2))
	for _, x := range []api.V{one(3), one(null), dec(1), at(1), truth(1), symbol("1"), symbol("x"), ints(1), ints(), list(), list(ints(1)), k, k.L[0], row("a", ints(1)), lambda("{x}"), nothing()} {
		wantFind(t, k, 2, x)
	}
	twice := pairs(columns("a", ints(5, 3, 5, 3)), columns("b", ints(1, 2, 3, 4)))
	wantFind(t, twice, 0, one(5))
	wantFind(t, twice, 1, one(3))
	wantFind(t, twice, 4, one(4))
	two := pairs(columns("a b", ints(1, 1, 2, 2, 1), symbols("x", "y", "x", "y", "y")), columns("c", ints(1, 2, 3, 4, 5)))
	wantFind(t, two, 0, one(1), symbol("x"))
	wantFind(t, two, 1, one(1), symbol("y"))
	wantFind(t, two, 3, one(2), symbol("y"))
	wantFind(t, two, 5, one(2), symbol("z"))
	wantFind(t, two, 5, symbol("x"), one(1))
	nulls := pairs(columns("a b", ints(0, null), symbols("", "a")), columns("c", ints(1, 2)))
	wantFind(t, nulls, 0, one(0), symbol(""))
	wantFind(t, nulls, 1, one(null), symbol("a"))
	wantFind(t, nulls, 2, one(null), symbol(""))
	anything := []api.V{one(1), ints(1), list(), ints(), symbol("a"), list(ints(1), one(1)), small(), small().L[0], lambda("{x}"), dec(1)}
	lists := pairs(columns("a", list(anything...)), columns("b", til(len(anything))))
	for i, x := range anything {
		wantFind(t, lists, i, x)
	}
	for _, x := range []api.V{one(2), ints(1, 1), symbols("a"), symbols(), at(1), list(one(1), ints(1)), nothing()} {
		wantFind(t, lists, len(anything), x)
	}
	wantFind(t, pairs(columns("a", ints()), columns("b", ints())), 0, one(1))
	wantFind(t, pairs(columns("a c", list(), ints()), columns("b", ints())), 0, list(), one(1))
}

// TestFindErrors: P12.2: as many values as there are key columns, no more and no fewer, of Find, Get and Delete.
func TestFindErrors(t *testing.T) {
	two := pairs(columns("a b", ints(1, 2), symbols("x", "y")), columns("c", ints(1, 2)))
	for k, l := range map[*api.V][][]api.V{
		{T: api.KDict, L: small().L}: {nil, {}, {one(1), one(1)}, {one(1), symbol("x")}, {one(1), nothing(), nothing()}},
		{T: api.KDict, L: two.L}:     {nil, {one(1)}, {ints(1)}, {list(one(1), symbol("x"))}, {one(1), symbol("x"), one(1)}, make([]api.V, 100)},
	} {
		for _, x := range l {
			n, e := keyed.Find(*k, x...)
			is(t, "Find of "+told(x...), e, api.ErrLength)
			is(t, "Find of "+told(x...), n, 0)
			refused(t, api.ErrLength)(keyed.Get(*k, x...))
			refused(t, api.ErrLength)(keyed.Delete(*k, x...))
		}
	}
}

// TestPlaces: P12.2: of each row the first row with its key.
func TestPlaces(t *testing.T) {
	k := small()
	wantPlaces(t, k, columns("a", ints()))
	wantPlaces(t, k, columns("b a c", ints(1, 2, 3), ints(2, 2, 1), list(ints(), list(), one(1))), 1, 1, 0)
	wantPlaces(t, k, columns("a", decs(1, 2)), -1, -1)
	wantPlaces(t, k, columns("a", list(one(2), dec(2), ints(2), symbol("y"), one(1))), 1, -1, -1, -1, 0)
	wantPlaces(t, k, columns("a b", symbols("x", "y"), symbols("x", "y")), -1, -1)
	twice := pairs(columns("a", ints(5, 3, 5, 3)), columns("b", ints(1, 2, 3, 4)))
	wantPlaces(t, twice, columns("a", ints(3, 5, 4, 5)), 1, 0, -1, 0)
	two := pairs(columns("a b", ints(1, 1, 2), symbols("x", "y", "x")), columns("c", ints(1, 2, 3)))
	wantPlaces(t, two, columns("b a", symbols("x", "x", "y", "y"), ints(1, 2, 1, 2)), 0, 2, 1, -1)
	wantPlaces(t, two, columns("b c a", list(symbol("y"), one(1)), ints(1, 2), ints(1, 1)), 1, -1)
	lists := pairs(columns("a", list(ints(1), one(1), list(), one(1))), columns("b", ints(1, 2, 3, 4)))
	wantPlaces(t, lists, columns("a", ints(1, 2)), 1, -1)
	wantPlaces(t, lists, columns("a", list(list(), ints(1), ints(), ints(1, 1))), 2, 0, -1, -1)
	none := pairs(columns("a", ints()), columns("b", ints()))
	wantPlaces(t, none, columns("a", ints(1, null)), -1, -1)
	wantPlaces(t, none, columns("a", list()))
}

// TestPlacesErrors: P12.2.
func TestPlacesErrors(t *testing.T) {
	two := pairs(columns("a b", ints(1, 2), symbols("x", "y")), columns("c", ints(1, 2)))
	refuse := func(v api.V, want api.Errno) {
		t.Helper()
		l, e := keyed.Places(two, v)
		is(t, "Places of "+told(v), e, want)
		is(t, "Places of "+told(v), len(l), 0)
	}
	for _, v := range append(noKeyed(), two, small()) {
		if v.T != api.KTable {
			refuse(v, api.ErrType)
		}
	}
	for _, v := range []api.V{columns("a", ints(1)), columns("b", symbols("x")), columns("c", ints(1)), columns("a c", ints(1), ints(1)), columns("A b", ints(1), ints(1)), columns("b", ints())} {
		refuse(v, api.ErrColumn)
	}
}

// TestGet: P12.2: what the other columns have, or what vec.Index tells.
func TestGet(t *testing.T) {
	keys := columns("k", ints(1, 2))
	k := pairs(keys, columns("a b c d e f", bools(1, 0), ints(5, null), symbols("x", ""), times(7, 8), decs(9, 10), list(ints(1), one(1))))
	made(t, row("a b c d e f", list(truth(1), one(5), symbol("x"), at(7), dec(9), ints(1))))(keyed.Get(k, one(1)))
	made(t, row("a b c d e f", list(truth(0), one(null), symbol(""), at(8), dec(10), one(1))))(keyed.Get(k, one(2)))
	made(t, row("a b c d e f", list(truth(0), one(null), symbol(""), at(null), dec(null), list())))(keyed.Get(k, one(3)))
	for _, c := range []struct{ column, first, none api.V }{
		{ints(1, 2), ints(1), ints(null)},
		{bools(1, 1), bools(1), bools(0)},
		{symbols("a", "b"), symbols("a"), symbols("")},
		{times(1, 2), times(1), times(null)},
		{decs(1, 2), decs(1), decs(null)},
		{list(ints(1), one(1)), list(ints(1)), list(list())},
		{list(symbol("a"), one(1)), symbols("a"), list(list())},
		{list(list(), list()), list(list()), list(list())},
		{list(small(), small()), list(small()), list(list())},
	} {
		k := pairs(keys, columns("v", c.column))
		made(t, row("v", c.first))(keyed.Get(k, one(1)))
		made(t, row("v", c.none))(keyed.Get(k, one(0)))
		none := pairs(columns("k", ints()), columns("v", api.V{T: c.column.T}))
		made(t, row("v", c.none))(keyed.Get(none, one(1)))
	}
	alike := pairs(columns("k", ints(1, 1)), columns("b a", ints(1, 2), ints(3, 4)))
	made(t, row("b a", ints(1, 3)))(keyed.Get(alike, one(1)))
	two := pairs(columns("a b", ints(1, 1), symbols("x", "y")), columns("c", ints(7, 8)))
	made(t, row("c", ints(8)))(keyed.Get(two, one(1), symbol("y")))
	made(t, row("c", ints(null)))(keyed.Get(two, symbol("y"), one(1)))
	made(t, row("c", ints(null)))(keyed.Get(two, one(1), nothing()))
	just := pairs(keys, columns("v", list(deep(api.MaxDepth-3), ints())))
	made(t, row("v", list(deep(api.MaxDepth-3))))(keyed.Get(just, one(1)))
}

// long is a keyed table of as many rows as there may be, and the same places as keys of two columns.
func long() (k api.V, keys []api.V) {
	n, s, l := ints(), symbols(), list()
	for i := range api.MaxCount {
		n.N = append(n.N, int64(i*7919%api.MaxCount/256))
		s.S = append(s.S, "s"+strconv.Itoa(i*7919%api.MaxCount%256))
		l.L = append(l.L, ints(n.N[i]))
	}
	k = pairs(columns("a b", n, s), columns("c d", til(api.MaxCount), l))
	return k, []api.V{n, s}
}

// TestLong: P12.1, P12.2: as many rows as there may be, each with a key of its own.
func TestLong(t *testing.T) {
	k, keys := long()
	all := columns("d a c b", k.L[1].L[1], keys[0], k.L[1].L[0], keys[1])
	wantUnique(t, k, true)
	made(t, pairs(columns("a b", keys...), columns("d c", k.L[1].L[1], k.L[1].L[0])))(keyed.Key(all, "a", "b"))
	refused(t, api.ErrKey)(keyed.Key(all, "a", "d"))
	var places []int
	for i := range api.MaxCount {
		places = append(places, i)
	}
	wantPlaces(t, k, all, places...)
	turned := []api.V{ints(slices.Clone(keys[0].N)...), symbols(slices.Clone(keys[1].S)...)}
	slices.Reverse(turned[0].N)
	slices.Reverse(turned[1].S)
	slices.Reverse(places)
	wantPlaces(t, k, columns("b a", turned[1], turned[0]), places...)
	last := api.MaxCount - 1
	wantFind(t, k, last, one(keys[0].N[last]), symbol(keys[1].S[last]))
	wantFind(t, k, api.MaxCount, one(keys[0].N[last]), symbol("s"))
}
