package attr_test

import (
	"fmt"
	"math"
	"slices"
	"testing"

	"quiver/api"
	"quiver/attr"
	"quiver/value"
)

const (
	null     = api.Null
	greatest = math.MaxInt64
	least    = -math.MaxInt64
)

// draws is a row of numbers that looks random, and is the same each time.
func draws(seed uint64) func(below int) int {
	return func(below int) int {
		seed = seed*6364136223846793005 + 1442695040888963407
		return int(seed>>33) % below
	}
}

func is[K comparable](t *testing.T, what string, got, want K) {
	t.Helper()
	if got != want {
		t.Fatalf("%.300s: %.300s, not %.300s", what, fmt.Sprint(got), fmt.Sprint(want))
	}
}

// The kinds of values, written out without the packages' help.
func vector(t int, n ...int64) api.V { return api.V{T: t, N: n} }
func symbols(s ...string) api.V      { return api.V{T: api.KSym, S: s} }
func atom(t int, n int64) api.V      { return api.V{T: -t, N: []int64{n}} }
func symbol(s string) api.V          { return api.V{T: -api.KSym, S: []string{s}} }
func list(l ...api.V) api.V          { return api.V{T: api.KList, L: l} }
func dict(k, v api.V) api.V          { return api.V{T: api.KDict, L: []api.V{k, v}} }
func bools(n ...int64) api.V         { return vector(api.KBool, n...) }
func ints(n ...int64) api.V          { return vector(api.KInt, n...) }
func times(n ...int64) api.V         { return vector(api.KTime, n...) }
func decs(n ...int64) api.V          { return vector(api.KDec, n...) }
func truth(n int64) api.V            { return atom(api.KBool, n) }
func one(n int64) api.V              { return atom(api.KInt, n) }
func at(n int64) api.V               { return atom(api.KTime, n) }
func dec(n int64) api.V              { return atom(api.KDec, n) }
func table(name string, l api.V) api.V {
	return api.V{T: api.KTable, S: []string{name}, L: []api.V{l}}
}

// others are values that are no vectors.
func others() []api.V {
	t := table("a", ints(1, 2))
	return []api.V{list(), list(ints(1)), list(one(1), symbol("a")), t, dict(ints(1), ints(2)), dict(t, t), {T: api.KLambda, S: []string{"{x}"}}, {T: api.KNil}, one(1), one(null), truth(1), at(1), dec(1), symbol("a"), symbol("")}
}

// marks are all kinds of marks.
func marks() []int {
	return []int{api.AttrNone, api.AttrSorted, api.AttrUnique, api.AttrGrouped, api.AttrParted}
}

// types are all types of vectors.
func types() []int {
	return []int{api.KBool, api.KInt, api.KSym, api.KTime, api.KDec}
}

// told is values in few words.
func told(l ...api.V) string { return fmt.Sprintf("%.300s", fmt.Sprint(l)) }

// elements are the atoms of a vector.
func elements(v api.V) []api.V {
	var l []api.V
	for _, n := range v.N {
		l = append(l, atom(v.T, n))
	}
	for _, s := range v.S {
		l = append(l, symbol(s))
	}
	return l
}

// joined is the vector of these atoms.
func joined(t int, l ...api.V) api.V {
	v := api.V{T: t}
	for _, a := range l {
		v.N, v.S = append(v.N, a.N...), append(v.S, a.S...)
	}
	return v
}

// drawn is a vector in which few elements are unlike, now and then in order.
func drawn(draw func(int) int, t, count int) api.V {
	var l []api.V
	for range count {
		l = append(l, drawnAtom(draw, t))
	}
	if draw(2) == 0 {
		slices.SortFunc(l, value.Compare)
	}
	return joined(t, l...)
}

func drawnAtom(draw func(int) int, t int) api.V {
	switch t {
	case api.KSym:
		return symbol([]string{"", "a", "ab", "b", "\xff", "é", "B"}[draw(7)])
	case api.KBool:
		return truth(int64(draw(2)))
	}
	return atom(t, []int64{null, least, -1, 0, 1, 10000, greatest}[draw(7)])
}

// so tells by P9.1 whether a vector is as a mark says, each element held against each other one.
func so(mark int, v api.V) bool {
	l := elements(v)
	for i := range l {
		for j := range i {
			order := value.Compare(l[j], l[i])
			switch {
			case mark == api.AttrSorted && j == i-1 && order > 0:
				return false
			case mark == api.AttrUnique && order == 0:
				return false
			case mark == api.AttrParted && order == 0 && value.Compare(l[i-1], l[i]) != 0:
				return false
			}
		}
	}
	return true
}

// wanted is the error of a mark and a vector.
func wanted(mark int, v api.V) api.Errno {
	if so(mark, v) {
		return api.OK
	}
	return api.ErrAttr
}

func built(t *testing.T, mark int, v api.V) *attr.Index {
	t.Helper()
	x, e := attr.Build(mark, v)
	is(t, "Build of "+told(v), e, api.OK)
	wantIndex(t, x, mark, v)
	return x
}

// wantIndex asks for the mark and the vector: P9.3, P9.9.
func wantIndex(t *testing.T, x *attr.Index, mark int, v api.V) {
	t.Helper()
	is(t, "Kind of "+told(v), x.Kind(), mark)
	got := x.Vector()
	if !value.Match(got, v) {
		t.Fatalf("Vector: %s, not %s", told(got), told(v))
	}
	is(t, "Valid of "+told(v), attr.Valid(x.Kind(), got), api.OK)
}

// wantValid holds Valid and Build against an error.
func wantValid(t *testing.T, mark int, v api.V, want api.Errno) {
	t.Helper()
	what := fmt.Sprint("mark ", mark, " of ", told(v))
	is(t, "Valid: "+what, attr.Valid(mark, v), want)
	x, e := attr.Build(mark, v)
	is(t, "Build: "+what, e, want)
	is(t, "Build: "+what, x == nil, want != api.OK)
	if want == api.OK {
		wantIndex(t, x, mark, v)
	}
}

// wantMarks asks which of sorted, unique and parted a vector is; it is always none and grouped.
func wantMarks(t *testing.T, v api.V, sorted, unique, parted bool) {
	t.Helper()
	for mark, yes := range map[int]bool{api.AttrNone: true, api.AttrSorted: sorted, api.AttrUnique: unique, api.AttrGrouped: true, api.AttrParted: parted} {
		want := api.ErrAttr
		if yes {
			want = api.OK
		}
		wantValid(t, mark, v, want)
	}
}

// TestExamples: the chapter's examples.
func TestExamples(t *testing.T) {
	x := built(t, api.AttrSorted, ints(1, 3, 3, 7))
	wantFind(t, x, one(3), 1, 2)
	lo := one(2)
	wantRange(t, x, &lo, nil, 1, 2, 3)
	wantAppend(t, x, ints(9), true)
	wantIndex(t, x, api.AttrSorted, ints(1, 3, 3, 7, 9))
	wantAppend(t, x, ints(8), false)
	wantIndex(t, x, api.AttrNone, ints(1, 3, 3, 7, 9, 8))
	wantValid(t, api.AttrSorted, ints(2, 1), api.ErrAttr)
	x = built(t, api.AttrParted, symbols("a", "a", "b"))
	wantGroups(t, x, symbols("a", "b"), []int{0, 1}, []int{2})
	wantSet(t, x, 0, symbol("b"), false)
	wantIndex(t, x, api.AttrNone, symbols("b", "a", "b"))
}

// TestValid: P9.1, P9.2: what is marked so, by hand.
func TestValid(t *testing.T) {
	for _, k := range types() {
		wantMarks(t, api.V{T: k}, true, true, true)
		wantMarks(t, api.V{T: k, N: []int64{}, S: []string{}, L: []api.V{}}, true, true, true)
	}
	for _, k := range []int{api.KInt, api.KTime, api.KDec} {
		wantMarks(t, vector(k, null), true, true, true)
		wantMarks(t, vector(k, 5), true, true, true)
		wantMarks(t, vector(k, 5, 5), true, false, true)
		wantMarks(t, vector(k, null, least, -1, 0, 1, greatest), true, true, true)
		wantMarks(t, vector(k, greatest, 1, 0, -1, least, null), false, true, true)
		wantMarks(t, vector(k, null, null, 1, 1), true, false, true)
		wantMarks(t, vector(k, 1, 1, null, null), false, false, true)
		wantMarks(t, vector(k, 1, 2, 1), false, false, false)
		wantMarks(t, vector(k, null, 1, null), false, false, false)
		wantMarks(t, vector(k, 1, 2, 3, 4, 3), false, false, false)
		wantMarks(t, vector(k, 2, 2, 1, 1, 3, 3, 3), false, false, true)
		wantMarks(t, vector(k, 2, 2, 1, 1, 3, 3, 2), false, false, false)
		wantMarks(t, vector(k, 2, 1), false, true, true)
		wantMarks(t, vector(k, 1, 2, 2), true, false, true)
		wantMarks(t, vector(k, 1<<32, 1<<33), true, true, true)
	}
	wantMarks(t, bools(0, 1), true, true, true)
	wantMarks(t, bools(1, 0), false, true, true)
	wantMarks(t, bools(0, 0, 1), true, false, true)
	wantMarks(t, bools(1, 1, 0), false, false, true)
	wantMarks(t, bools(0, 1, 0), false, false, false)
	wantMarks(t, symbols("", "A", "a", "ab", "b", "é", "\xff"), true, true, true)
	wantMarks(t, symbols("b", "ab"), false, true, true)
	wantMarks(t, symbols("a", ""), false, true, true)
	wantMarks(t, symbols("a", "a", ""), false, false, true)
	wantMarks(t, symbols("", "", "a", "b", "b"), true, false, true)
	wantMarks(t, symbols("a", "b", "a"), false, false, false)
	wantMarks(t, symbols("\xff", "é"), false, true, true)
}

// TestValidWrong: P9.1, P9.2: errors, and which is first.
func TestValidWrong(t *testing.T) {
	for _, mark := range []int{-1, 5, 9, 90, -90, math.MinInt, math.MaxInt} {
		for _, v := range append(others(), ints(), ints(1, 2), ints(2, 1, 2), symbols("a")) {
			wantValid(t, mark, v, api.ErrArg)
		}
	}
	for _, mark := range marks() {
		for _, v := range others() {
			wantValid(t, mark, v, api.ErrType)
		}
	}
}

// TestValidDrawn: P9.1, P9.2: drawn vectors, each element held against each other one.
func TestValidDrawn(t *testing.T) {
	draw := draws(91)
	taken := map[int]int{}
	for range 3000 {
		for _, k := range types() {
			v := drawn(draw, k, draw(7))
			for _, mark := range marks() {
				wantValid(t, mark, v, wanted(mark, v))
				taken[mark]++
				if wanted(mark, v) != api.OK {
					taken[mark+10]++
				}
			}
		}
	}
	for _, mark := range []int{api.AttrSorted, api.AttrUnique, api.AttrParted} {
		is(t, "both are drawn", taken[mark+10] > 1000 && taken[mark]-taken[mark+10] > 1000, true)
	}
}

// TestValidLong: P9.1, P9.2: as many elements as a vector may have.
func TestValidLong(t *testing.T) {
	rising, twice, late := make([]int64, api.MaxCount), make([]int64, api.MaxCount), make([]int64, api.MaxCount)
	for i := range rising {
		rising[i], twice[i], late[i] = int64(i), int64(i/2), int64(i+1)
	}
	late[api.MaxCount-1] = 1
	wantMarks(t, ints(rising...), true, true, true)
	wantMarks(t, times(twice...), true, false, true)
	wantMarks(t, decs(late...), false, false, false)
	slices.Reverse(rising)
	slices.Reverse(twice)
	wantMarks(t, decs(rising...), false, true, true)
	wantMarks(t, ints(twice...), false, false, true)
}
