package agg_test

import (
	"fmt"
	"sort"
	"testing"

	"quiver/agg"
	"quiver/api"
	"quiver/value"
)

func wantDistinct(t *testing.T, v, want api.V) {
	t.Helper()
	got, e := agg.Distinct(v)
	wants(t, got, e, want, api.OK, "Distinct", v)
}

func wantGrade(t *testing.T, v api.V, down bool, want ...int64) {
	t.Helper()
	got, e := agg.Grade(v, down)
	wants(t, got, e, ints(want...), api.OK, fmt.Sprint("Grade ", down), v)
}

func wantSort(t *testing.T, v api.V, down bool, want api.V) {
	t.Helper()
	got, e := agg.Sort(v, down)
	wants(t, got, e, want, api.OK, fmt.Sprint("Sort ", down), v)
}

func wantFind(t *testing.T, v, x api.V, want int) {
	t.Helper()
	got, e := agg.Find(v, x)
	if e != api.OK || got != want {
		t.Fatalf("Find of %s: %d, error %d; not %d", told(v, x), got, e, want)
	}
}

// TestDistinct: P8.5.
func TestDistinct(t *testing.T) {
	wantDistinct(t, ints(3, 1, 3, null, 2, 1, null), ints(3, 1, null, 2))
	wantDistinct(t, symbols("b", "a", "", "b", ""), symbols("b", "a", ""))
	wantDistinct(t, bools(1, 1, 0, 1), bools(1, 0))
	wantDistinct(t, times(5, 5), times(5))
	wantDistinct(t, decs(2, 1), decs(2, 1))
	wantDistinct(t, list(one(1), ints(1), one(1), at(1), list(), ints(1), list()), list(one(1), ints(1), at(1), list()))
	wantDistinct(t, list(ints(2), ints(1), ints(2)), list(ints(2), ints(1)))
	wantDistinct(t, list(one(1), dec(1), truth(1), at(1), symbol("1"), ints(1), decs(1)), list(one(1), dec(1), truth(1), at(1), symbol("1"), ints(1), decs(1)))
	for k := api.KList; k <= api.KDec; k++ {
		wantDistinct(t, api.V{T: k}, api.V{T: k})
	}
	wantDistinct(t, ints(many(7, api.MaxCount)...), ints(7))
}

// TestGrade: P8.5.
func TestGrade(t *testing.T) {
	wantGrade(t, ints(2, 1, 2, null, 1), false, 3, 1, 4, 0, 2)
	wantGrade(t, ints(2, 1, 2, null, 1), true, 0, 2, 1, 4, 3)
	wantGrade(t, symbols("b", "", "ab", "\xff", "é"), false, 1, 2, 0, 4, 3)
	wantGrade(t, symbols("b", "a", "b"), true, 0, 2, 1)
	wantGrade(t, bools(1, 0, 1, 0), false, 1, 3, 0, 2)
	wantGrade(t, bools(1, 0, 1, 0), true, 0, 2, 1, 3)
	wantGrade(t, times(greatest, least, null), false, 2, 1, 0)
	wantGrade(t, decs(5, 5, 5), true, 0, 1, 2)
	mixed := list(list(), ints(1), symbol("a"), one(2), truth(1), one(1), ints(1), dict(ints(), ints()), table("a", ints()), lambda("{x}"), at(0), dec(0))
	wantGrade(t, mixed, false, 4, 5, 3, 1, 6, 10, 11, 2, 0, 7, 8, 9)
	wantGrade(t, mixed, true, 9, 8, 7, 0, 2, 11, 10, 1, 6, 3, 5, 4)
	for k := api.KList; k <= api.KDec; k++ {
		wantGrade(t, api.V{T: k}, false)
		wantGrade(t, api.V{T: k}, true)
	}
}

// TestSort: P8.5.
func TestSort(t *testing.T) {
	wantSort(t, ints(2, 1, null, 2), false, ints(null, 1, 2, 2))
	wantSort(t, ints(2, 1, null, 2), true, ints(2, 2, 1, null))
	wantSort(t, symbols("b", "", "a"), false, symbols("", "a", "b"))
	wantSort(t, bools(1, 0), false, bools(0, 1))
	wantSort(t, times(1, 3, 2), true, times(3, 2, 1))
	wantSort(t, decs(-1), true, decs(-1))
	wantSort(t, list(ints(2), symbol("a"), ints(1)), false, list(ints(1), ints(2), symbol("a")))
	wantSort(t, list(ints(2), symbol("a"), ints(1)), true, list(symbol("a"), ints(2), ints(1)))
	for k := api.KList; k <= api.KDec; k++ {
		wantSort(t, api.V{T: k}, false, api.V{T: k})
		wantSort(t, api.V{T: k}, true, api.V{T: k})
	}
}

// TestFind: P8.5.
func TestFind(t *testing.T) {
	wantFind(t, ints(5, null, 5, null), one(5), 0)
	wantFind(t, ints(5, null, 5, null), one(null), 1)
	wantFind(t, ints(5, 6), one(7), 2)
	wantFind(t, ints(5, 6), dec(6), 2)
	wantFind(t, ints(5, 6), ints(6), 2)
	wantFind(t, ints(5, 6), nothing(), 2)
	wantFind(t, bools(0, 1), truth(1), 1)
	wantFind(t, bools(0, 1), one(1), 2)
	wantFind(t, symbols("a", "", "b"), symbol("b"), 2)
	wantFind(t, symbols("a", "", "b"), symbol(""), 1)
	wantFind(t, symbols("a", "", "b"), symbols("a"), 3)
	wantFind(t, times(1, 2), at(2), 1)
	wantFind(t, times(1, 2), one(2), 2)
	wantFind(t, decs(1, 2, 2), dec(2), 1)
	l := list(ints(1), one(1), list(), table("a", ints(1)), lambda("{x}"), one(1), dict(ints(1), ints(2)))
	for i, want := range []int{0, 1, 2, 3, 4, 1, 6} {
		wantFind(t, l, l.L[i], want)
	}
	wantFind(t, l, ints(), 7)
	wantFind(t, l, table("b", ints(1)), 7)
	for k := api.KList; k <= api.KDec; k++ {
		wantFind(t, api.V{T: k}, list(), 0)
		wantFind(t, api.V{T: k}, nullOf(k), 0)
	}
}

// TestOrderTypes: P8.5: what is no vector and no list.
func TestOrderTypes(t *testing.T) {
	for _, v := range others() {
		got, e := agg.Distinct(v)
		wants(t, got, e, api.V{}, api.ErrType, "Distinct", v)
		for _, down := range []bool{false, true} {
			got, e := agg.Grade(v, down)
			wants(t, got, e, api.V{}, api.ErrType, "Grade", v)
			got, e = agg.Sort(v, down)
			wants(t, got, e, api.V{}, api.ErrType, "Sort", v)
		}
		for _, x := range []api.V{v, one(1), list()} {
			n, e := agg.Find(v, x)
			is(t, "Find "+told(v), e, api.ErrType)
			is(t, "Find "+told(v), n, 0)
		}
	}
}

// like is the sequence of these elements, of v's type, if v is a vector.
func like(v api.V, l []api.V) api.V {
	if len(l) == 0 {
		return api.V{T: v.T}
	}
	return value.Of(l...)
}

// TestOrderDrawn: P8.5, P8.9: drawn sequences, against the elements sorted, and looked for, one by one.
func TestOrderDrawn(t *testing.T) {
	draw := draws(86)
	for range 8000 {
		v := sequence(draw)
		l := elements(v)
		for _, down := range []bool{false, true} {
			at := []int64{}
			for i := range l {
				at = append(at, int64(i))
			}
			sort.SliceStable(at, func(i, j int) bool {
				order := value.Compare(l[at[i]], l[at[j]])
				return order < 0 && !down || order > 0 && down
			})
			wantGrade(t, v, down, at...)
			sorted := []api.V{}
			for _, i := range at {
				sorted = append(sorted, l[i])
			}
			wantSort(t, v, down, like(v, sorted))
			wantInOrder(t, v, down)
		}
		unlike := []api.V{}
		for i, x := range l {
			first := 0
			for !value.Match(l[first], x) {
				first++
			}
			if first == i {
				unlike = append(unlike, x)
			}
			wantFind(t, v, x, first)
		}
		wantDistinct(t, v, like(v, unlike))
	}
}

// wantInOrder: P8.9: Grade is each place once; Sort is in order, and stable.
func wantInOrder(t *testing.T, v api.V, down bool) {
	t.Helper()
	at, e := agg.Grade(v, down)
	is(t, "Grade", e, api.OK)
	is(t, "Grade", len(at.N), value.Count(v))
	sorted, e := agg.Sort(v, down)
	is(t, "Sort", e, api.OK)
	l := elements(sorted)
	is(t, "Sort", len(l), value.Count(v))
	seen := map[int64]bool{}
	for i, place := range at.N {
		is(t, "a place once", seen[place] || place < 0 || place >= int64(len(l)), false)
		seen[place] = true
		is(t, "Sort by Grade", value.Match(elements(v)[place], l[i]), true)
		if i == 0 {
			continue
		}
		order := value.Compare(l[i-1], l[i])
		if down {
			order = -order
		}
		is(t, "in order", order < 0 || order == 0 && at.N[i-1] < place, true)
	}
}

// TestOrderLong: P8.9: as many elements as a vector may have.
func TestOrderLong(t *testing.T) {
	draw := draws(87)
	n := make([]int64, api.MaxCount)
	for i := range n {
		n[i] = int64(draw(1000))
	}
	for _, down := range []bool{false, true} {
		at, e := agg.Grade(ints(n...), down)
		is(t, "Grade", e, api.OK)
		for i, place := range at.N[1:] {
			ahead := at.N[i]
			is(t, "Grade", n[ahead] == n[place] && ahead < place || n[ahead] != n[place] && n[ahead] < n[place] != down, true)
		}
	}
}
