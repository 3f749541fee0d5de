package dict_test

import (
	"slices"
	"strconv"
	"testing"

	"quiver/api"
	"quiver/dict"
	"quiver/value"
)

// long is a dictionary of as many keys as there may be, from first on: ints, or (of a list) ints and symbols in turn.
func long(first int, mixed bool) api.V {
	n := til(api.MaxCount)
	for i := range n.N {
		n.N[i] = n.N[i]*7919%api.MaxCount + int64(first) // each once, in no order
	}
	if !mixed {
		return pairs(n, til(api.MaxCount))
	}
	l := list()
	for i, x := range n.N {
		if i%2 == 0 {
			l.L = append(l.L, one(x))
		} else {
			l.L = append(l.L, symbol(strconv.Itoa(int(x))))
		}
	}
	return pairs(l, til(api.MaxCount))
}

// TestLong: P10.3 to P10.6: as many keys as there may be, and as many asked.
func TestLong(t *testing.T) {
	for _, mixed := range []bool{false, true} {
		d := long(0, mixed)
		keys := elements(d.L[0])
		wantGet(t, d.L[1], d, keys...)
		turned := slices.Clone(keys)
		slices.Reverse(turned)
		back := til(api.MaxCount)
		slices.Reverse(back.N)
		wantGet(t, back, d, turned...)
		wantDrop(t, pairs(value.Of(keys[0]), ints(0)), d, turned[:api.MaxCount-1]...)
		last, e := dict.Drop(d, turned...)
		wants(t, last, e, pairs(value.Empty(keys[0].T), ints()), api.OK, "Drop of all")
		wantUnique(t, d, d)
		wantJoin(t, pairs(d.L[0], back), d, d, pairs(value.Of(turned...), d.L[1]))
		wantJoinError(t, api.ErrMany, d, pairs(ints(-1), ints(5)))
		g, e := dict.Group(d.L[0])
		is(t, "Group", e, api.OK)
		is(t, "Group's keys", value.Match(g.L[0], d.L[0]), true)
		for i, places := range g.L[1].L {
			is(t, "Group's places", value.Match(places, ints(int64(i))), true)
		}
	}
}

// TestLongAlike: as many keys as there may be, all of which match.
func TestLongAlike(t *testing.T) {
	same := ints(slices.Repeat([]int64{5}, api.MaxCount)...)
	d := pairs(same, til(api.MaxCount))
	asks := elements(same)
	wantGet(t, ints(slices.Repeat([]int64{0}, api.MaxCount)...), d, asks...)
	wantUnique(t, d, pairs(ints(5), ints(0)))
	wantDrop(t, pairs(ints(5), ints(api.MaxCount-1)), d, asks[1:]...)
	wantDrop(t, pairs(ints(), ints()), d, append(asks, one(5), one(6))...)
	first := til(api.MaxCount)
	first.N[0] = api.MaxCount - 1
	wantJoin(t, pairs(same, first), d, d)
	wantJoin(t, pairs(ints(5), ints(api.MaxCount-1)), pairs(list(), list()), d)
	wantGroup(t, same, pairs(ints(5), list(til(api.MaxCount))), api.OK)
}

// TestManyDictionaries: P10.5: many small ones.
func TestManyDictionaries(t *testing.T) {
	var l []api.V
	for i := range api.MaxCount {
		l = append(l, pairs(ints(int64(i)), ints(int64(-i))))
	}
	want := pairs(til(api.MaxCount), til(api.MaxCount))
	for i := range want.L[1].N {
		want.L[1].N[i] *= -1
	}
	wantJoin(t, want, l...)
	wantJoin(t, want, append(slices.Clone(l), l...)...)
	wantJoinError(t, api.ErrMany, append(l, pairs(symbols("a"), ints(1)))...)
}
