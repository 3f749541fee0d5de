package dict_test

import (
	"fmt"
	"testing"

	"quiver/api"
	"quiver/dict"
)

func wantUnique(t *testing.T, d, want api.V) {
	t.Helper()
	got, e := dict.Unique(d)
	wants(t, got, e, want, api.OK, "Unique", d)
}

func wantSortKeys(t *testing.T, d api.V, down bool, want api.V) {
	t.Helper()
	got, e := dict.SortKeys(d, down)
	wants(t, got, e, want, api.OK, fmt.Sprint("SortKeys ", down), d)
}

func wantSortValues(t *testing.T, d api.V, down bool, want api.V) {
	t.Helper()
	got, e := dict.SortValues(d, down)
	wants(t, got, e, want, api.OK, fmt.Sprint("SortValues ", down), d)
}

func wantGroup(t *testing.T, v, want api.V, wantE api.Errno) {
	t.Helper()
	got, e := dict.Group(v)
	wants(t, got, e, want, wantE, "Group", v)
}

// empties are the dictionaries without keys.
func empties() []api.V {
	var l []api.V
	for k := api.KList; k <= api.KDec; k++ {
		for v := api.KList; v <= api.KDec; v++ {
			l = append(l, pairs(api.V{T: k}, api.V{T: v}))
		}
	}
	return l
}

// TestUnique: P10.5.
func TestUnique(t *testing.T) {
	wantUnique(t, pairs(ints(1, 2, 1), symbols("a", "b", "c")), pairs(ints(1, 2), symbols("a", "b")))
	wantUnique(t, pairs(symbols("b", "a", "b", "", "a"), ints(1, 2, 3, 4, 5)), pairs(symbols("b", "a", ""), ints(1, 2, 4)))
	wantUnique(t, pairs(ints(1, 2, 3), ints(1, 1, 1)), pairs(ints(1, 2, 3), ints(1, 1, 1)))
	wantUnique(t, pairs(ints(null, null), times(1, 2)), pairs(ints(null), times(1)))
	wantUnique(t, pairs(list(one(1), dec(1), ints(1), one(1), ints(1)), ints(1, 2, 3, 4, 5)), pairs(list(one(1), dec(1), ints(1)), ints(1, 2, 3)))
	wantUnique(t, pairs(symbols("a", "b", "a"), list(one(1), one(2), symbol("x"))), pairs(symbols("a", "b"), ints(1, 2))) // vec.Index's
	wantUnique(t, pairs(list(list(), list()), list(list(), one(1))), pairs(list(list()), list(list())))
	for _, d := range empties() {
		wantUnique(t, d, d)
	}
}

// TestSorts: P10.6.
func TestSorts(t *testing.T) {
	d := pairs(symbols("a", "c", "b", "c"), ints(2, 1, 2, 5))
	wantSortKeys(t, d, false, pairs(symbols("a", "b", "c", "c"), ints(2, 2, 1, 5)))
	wantSortKeys(t, d, true, pairs(symbols("c", "c", "b", "a"), ints(1, 5, 2, 2)))
	wantSortValues(t, d, false, pairs(symbols("c", "a", "b", "c"), ints(1, 2, 2, 5)))
	wantSortValues(t, d, true, pairs(symbols("c", "a", "b", "c"), ints(5, 2, 2, 1)))
	d = pairs(list(symbol("a"), one(2), ints(1), one(1)), list(ints(1), list(), symbol(""), truth(1)))
	wantSortKeys(t, d, false, pairs(list(one(1), one(2), ints(1), symbol("a")), list(truth(1), list(), symbol(""), ints(1))))
	wantSortKeys(t, d, true, pairs(list(symbol("a"), ints(1), one(2), one(1)), list(ints(1), symbol(""), list(), truth(1))))
	wantSortValues(t, d, false, pairs(list(one(1), symbol("a"), ints(1), one(2)), list(truth(1), ints(1), symbol(""), list())))
	wantSortValues(t, d, true, pairs(list(one(2), ints(1), symbol("a"), one(1)), list(list(), symbol(""), ints(1), truth(1))))
	d = pairs(times(3, null, 4), decs(null, 2, 1))
	wantSortKeys(t, d, false, pairs(times(null, 3, 4), decs(2, null, 1)))
	wantSortValues(t, d, true, pairs(times(null, 4, 3), decs(2, 1, null)))
	for _, d := range empties() {
		for _, down := range []bool{false, true} {
			wantSortKeys(t, d, down, d)
			wantSortValues(t, d, down, d)
		}
	}
}

// TestGroup: P10.6.
func TestGroup(t *testing.T) {
	wantGroup(t, ints(5, null, 5, 1, null, 5), pairs(ints(5, null, 1), list(ints(0, 2, 5), ints(1, 4), ints(3))), api.OK)
	wantGroup(t, bools(1, 1), pairs(bools(1), list(ints(0, 1))), api.OK)
	wantGroup(t, times(2, 1), pairs(times(2, 1), list(ints(0), ints(1))), api.OK)
	wantGroup(t, decs(7), pairs(decs(7), list(ints(0))), api.OK)
	wantGroup(t, symbols("b", "a", "b"), pairs(symbols("b", "a"), list(ints(0, 2), ints(1))), api.OK)
	l := list(one(1), ints(1), dec(1), one(1), list(), ints(1), table("a", ints()), list())
	wantGroup(t, l, pairs(list(one(1), ints(1), dec(1), list(), table("a", ints())), list(ints(0, 3), ints(1, 5), ints(2), ints(4, 7), ints(6))), api.OK)
	for k := api.KList; k <= api.KDec; k++ {
		wantGroup(t, api.V{T: k}, pairs(api.V{T: k}, list()), api.OK)
	}
	for _, v := range noSequences() {
		wantGroup(t, v, api.V{}, api.ErrType)
	}
	wantGroup(t, deep(api.MaxDepth-1), pairs(deep(api.MaxDepth-1), list(ints(0))), api.OK)
	wantGroup(t, deep(api.MaxDepth), api.V{}, api.ErrMany)
	wantGroup(t, list(one(1), deep(api.MaxDepth-1), one(1)), api.V{}, api.ErrMany)
}
