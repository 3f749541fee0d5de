package verbs_test

import (
	"strconv"
	"testing"

	"quiver/api"
	"quiver/value"
	"quiver/verbs"
)

// deepTable is a table of that depth, with one row.
func deepTable(name string, depth int) api.V {
	return table([]string{name}, deep(depth-1))
}

// TestDeepMonads: what would be no value for its depth is ErrMany.
func TestDeepMonads(t *testing.T) {
	const most = api.MaxDepth
	wantMonad(t, ",", deep(most-1), list(deep(most-1)), api.OK)
	wantMonad(t, ",", deep(most), api.V{}, api.ErrMany)
	wantMonad(t, "+", deepTable("a", most-1), pairs(symbols("a"), list(deep(most-2))), api.OK)
	wantMonad(t, "+", deepTable("a", most), api.V{}, api.ErrMany)
	wantMonad(t, "+", pairs(symbols("a"), list(deep(most-2))), deepTable("a", most-1), api.OK)
	wantMonad(t, "=", deep(most-1), pairs(deep(most-1), list(ints(0))), api.OK)
	wantMonad(t, "=", deep(most), api.V{}, api.ErrMany)
	wantMonad(t, ".", deepTable("a", most), list(deep(most-1)), api.OK)
	wantMonad(t, "-", deep(most), around(ints(-1), most-1), api.OK)
	wantMonad(t, "|", deep(most), deep(most), api.OK)
	wantMonad(t, "*", deepTable("a", most), pairs(symbols("a"), deep(most-1)), api.OK)
	wantMonad(t, "first", deep(most), deep(most-1), api.OK)
}

// TestDeepDyads: the same of two operands.
func TestDeepDyads(t *testing.T) {
	const most = api.MaxDepth
	wantDyad(t, "!", deepTable("a", most-1), deepTable("b", 2), pairs(deepTable("a", most-1), deepTable("b", 2)), api.OK)
	wantDyad(t, "!", deepTable("a", most), deepTable("b", 2), api.V{}, api.ErrMany)
	wantDyad(t, "!", deepTable("b", 2), deepTable("a", most), api.V{}, api.ErrMany)
	wantDyad(t, "!", ints(1), deep(most), api.V{}, api.ErrMany)
	wantDyad(t, "cut", ints(0), deep(most-1), list(deep(most-1)), api.OK)
	wantDyad(t, "cut", ints(0), deep(most), api.V{}, api.ErrMany)
	wantDyad(t, "cut", one(1), deep(most), api.V{}, api.ErrMany)
	wantDyad(t, "cut", ints(2), deep(most), api.V{}, api.ErrArg)
	wantDyad(t, ",", one(1), pairs(ints(1), deep(most-1)), api.V{}, api.ErrMany)
	wantDyad(t, ",", one(1), pairs(ints(1), deep(most-2)), list(one(1), pairs(ints(1), deep(most-2))), api.OK)
	wantDyad(t, "except", deep(most), ints(), deep(most), api.OK)
	wantDyad(t, "union", deep(most), deep(most), deep(most), api.OK)
	wantDyad(t, "#", one(1), deep(most), deep(most), api.OK)
}

// TestDeepPairs: P16.3: a list whose elements go with a whole dictionary: how deep that is is asked behind all other errors.
func TestDeepPairs(t *testing.T) {
	const half = api.MaxDepth / 2
	d := pairs(ints(1), deep(half-1))
	want := around(pairs(ints(1), around(ints(2), half-2)), half)
	wantDyad(t, "+", deep(half+1), d, want, api.OK)
	wantDyad(t, "+", d, deep(half+1), want, api.OK)
	wantDyad(t, "+", deep(half+2), d, api.V{}, api.ErrMany)
	wantDyad(t, "+", d, deep(half+2), api.V{}, api.ErrMany)
	wantDyad(t, "+", list(deep(half+1), one(1)), d, api.V{}, api.ErrMany)
	wantDyad(t, "+", list(deep(half+1), symbol("a")), d, api.V{}, api.ErrType)
	wantDyad(t, "+", list(deep(half+1), ints(1, 2)), d, api.V{}, api.ErrLength)
	wantDyad(t, "+", list(table([]string{"a"}, deep(half+1)), symbol("a")), d, api.V{}, api.ErrType)
}

// TestDeepIndex: P16.5: the same of lists of places; what is no value is not taken apart further.
func TestDeepIndex(t *testing.T) {
	zeros := func(depth int) api.V { return around(ints(0), depth-1) }
	const most, half = api.MaxDepth, api.MaxDepth / 2
	wantIndex(t, deep(most), api.OK, deep(half), zeros(half+1))
	wantIndex(t, api.V{}, api.ErrMany, deep(half), zeros(half+2))
	wantIndex(t, api.V{}, api.ErrType, deep(half), list(zeros(half+2), symbol("a")))
	wantIndex(t, api.V{}, api.ErrMany, deep(half), zeros(half+2), one(0))
	wantIndex(t, deep(most-1), api.OK, deep(half), zeros(half+1), one(0))
	wantDyad(t, ".", deep(half), list(zeros(half+2), symbol("a")), api.V{}, api.ErrMany)
}

// TestMaxCount: what would be no value for its count is ErrMany.
func TestMaxCount(t *testing.T) {
	all := til(api.MaxCount)
	wantDyad(t, ",", til(api.MaxCount-1), one(api.MaxCount-1), all, api.OK)
	wantDyad(t, ",", all, one(1), api.V{}, api.ErrMany)
	wantDyad(t, "union", all, ints(1), api.V{}, api.ErrMany)
	wantDyad(t, "union", all, ints(), all, api.OK)
	wantDyad(t, "#", one(api.MaxCount), ints(1), api.V{T: api.KInt, N: ones(api.MaxCount)}, api.OK)
	wantDyad(t, "#", one(api.MaxCount+1), ints(1), api.V{}, api.ErrMany)
	wantDyad(t, "#", one(api.MaxCount+1), table([]string{"a"}, ints(1)), api.V{}, api.ErrMany)
	wantDyad(t, ",", table([]string{"a"}, all), table([]string{"a"}, ints(1)), api.V{}, api.ErrMany)
	wantDyad(t, ",", pairs(all, all), pairs(ints(-1), ints(-1)), api.V{}, api.ErrMany)
	wantDyad(t, ",", pairs(all, all), pairs(ints(1), ints(1)), pairs(all, all), api.OK)
	wantMonad(t, "!", one(api.MaxCount), all, api.OK)
	wantMonad(t, "&", ints(api.MaxCount), api.V{T: api.KInt, N: make([]int64, api.MaxCount)}, api.OK)
}

func ones(n int) []int64 {
	l := make([]int64, n)
	for i := range l {
		l[i] = 1
	}
	return l
}

// TestManyColumns: P16.2: cols of a keyed table with as many columns as its two tables may have.
func TestManyColumns(t *testing.T) {
	keys, others, names := table(nil), table(nil), symbols()
	for i := range api.MaxColumns {
		keys.S, keys.L = append(keys.S, "k"+strconv.Itoa(i)), append(keys.L, ints(1))
		others.S, others.L = append(others.S, "v"+strconv.Itoa(i)), append(others.L, ints(1))
	}
	names.S = append(append(names.S, keys.S...), others.S...)
	wantMonad(t, "cols", pairs(keys, others), names, api.OK)
	wantMonad(t, "key", pairs(keys, others), symbols(keys.S...), api.OK)
	wantMonad(t, "unkey", pairs(keys, others), api.V{}, api.ErrSchema)
	wantDyad(t, "!", one(api.MaxColumns-1), keys, pairs(table(keys.S[:api.MaxColumns-1], keys.L[1:]...), table(keys.S[api.MaxColumns-1:], ints(1))), api.OK)
	wantDyad(t, "!", one(api.MaxColumns), keys, api.V{}, api.ErrArg)
}

// TestLarge: as many elements as there may be, found, put in order and cut, of vectors and of lists: this takes no long time.
func TestLarge(t *testing.T) {
	count := int64(api.MaxCount)
	up, down, odd, twos := til(api.MaxCount), ints(), ints(), list()
	for i := range count {
		down.N = append(down.N, count-1-i)
		if i%2 == 1 {
			odd.N = append(odd.N, i)
		}
		twos.L = append(twos.L, ints(i, i))
	}
	yes := vector(api.KBool, ones(api.MaxCount)...)
	wantDyad(t, "?", down, up, down, api.OK)
	wantDyad(t, "in", up, down, yes, api.OK)
	wantDyad(t, "in", up, ints(), vector(api.KBool, make([]int64, count)...), api.OK)
	wantDyad(t, "inter", up, odd, odd, api.OK)
	wantDyad(t, "except", up, up, ints(), api.OK)
	wantDyad(t, "inter", twos, twos, twos, api.OK)
	wantDyad(t, "except", twos, twos, list(), api.OK)
	wantDyad(t, "bin", up, down, down, api.OK)
	wantDyad(t, "bin", down, one(-1), one(-1), api.OK)
	wantDyad(t, "@", pairs(up, down), down, up, api.OK)
	wantDyad(t, "xdesc", symbol("a"), table([]string{"a", "b"}, up, down), table([]string{"a", "b"}, down, up), api.OK)
	wantMonad(t, "?", table([]string{"a", "b"}, up, twos), table([]string{"a", "b"}, up, twos), api.OK)
	wantMonad(t, "|", twos, value.Of(reversed(twos.L)...), api.OK)
	pieces, e := verbs.Dyad("cut", one(1), up)
	is(t, "pieces", e, api.OK)
	is(t, "pieces", len(pieces.L), api.MaxCount)
	pieces, e = verbs.Dyad("cut", api.V{T: api.KInt, N: make([]int64, count)}, up)
	is(t, "pieces", e, api.OK)
	wants(t, pieces.L[count-1], api.OK, up, api.OK, "the last piece")
	sum, e := verbs.Dyad("+", twos, up)
	is(t, "sum", e, api.OK)
	wants(t, sum.L[count-1], api.OK, ints(2*count-2, 2*count-2), api.OK, "the last sum")
}

func reversed(l []api.V) []api.V {
	var turned []api.V
	for i := range l {
		turned = append(turned, l[len(l)-1-i])
	}
	return turned
}
