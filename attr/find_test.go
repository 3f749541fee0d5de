package attr_test

import (
	"slices"
	"testing"

	"quiver/api"
	"quiver/attr"
	"quiver/value"
)

func wantFind(t *testing.T, x *attr.Index, a api.V, want ...int) {
	t.Helper()
	got, e := x.Find(a)
	is(t, "Find of "+told(a), e, api.OK)
	if !slices.Equal(got, want) {
		t.Fatalf("Find of %s in %s: %v, not %v", told(a), told(x.Vector()), got, want)
	}
	first, e := x.First(a)
	if len(want) == 0 {
		is(t, "First of "+told(a), e, api.ErrNone)
		is(t, "First of "+told(a), first, 0)
		return
	}
	is(t, "First of "+told(a), e, api.OK)
	is(t, "First of "+told(a), first, want[0])
}

func wantRange(t *testing.T, x *attr.Index, lo, hi *api.V, want ...int) {
	t.Helper()
	got, e := x.Range(lo, hi)
	is(t, "Range", e, api.OK)
	if !slices.Equal(got, want) {
		t.Fatalf("Range of %v to %v in %s: %v, not %v", lo, hi, told(x.Vector()), got, want)
	}
}

func wantGroups(t *testing.T, x *attr.Index, unlike api.V, want ...[]int) {
	t.Helper()
	got, groups := x.Groups()
	if !value.Match(got, unlike) || !slices.EqualFunc(groups, want, slices.Equal) {
		t.Fatalf("Groups of %s: %s, %v; not %s, %v", told(x.Vector()), told(got), groups, told(unlike), want)
	}
}

// all are indexes of v, of each mark that v may have.
func all(t *testing.T, v api.V) []*attr.Index {
	t.Helper()
	var l []*attr.Index
	for _, mark := range marks() {
		if so(mark, v) {
			l = append(l, built(t, mark, v))
		}
	}
	return l
}

// TestFind: P9.4: by hand.
func TestFind(t *testing.T) {
	for _, x := range all(t, ints(null, null, 3, 5, 5, 5, greatest)) {
		wantFind(t, x, one(null), 0, 1)
		wantFind(t, x, one(3), 2)
		wantFind(t, x, one(5), 3, 4, 5)
		wantFind(t, x, one(greatest), 6)
		wantFind(t, x, one(4))
		wantFind(t, x, one(least))
	}
	for _, x := range all(t, symbols("b", "", "a", "b")) {
		wantFind(t, x, symbol("b"), 0, 3)
		wantFind(t, x, symbol(""), 1)
		wantFind(t, x, symbol("a"), 2)
		wantFind(t, x, symbol("ab"))
	}
	for _, x := range all(t, bools(1, 1)) {
		wantFind(t, x, truth(1), 0, 1)
		wantFind(t, x, truth(0))
	}
	for _, x := range all(t, times(7, 6)) {
		wantFind(t, x, at(6), 1)
		wantFind(t, x, at(8))
	}
	for _, x := range all(t, decs(7, -6)) {
		wantFind(t, x, dec(-6), 1)
		wantFind(t, x, dec(6))
	}
}

// TestRange: P9.5: by hand.
func TestRange(t *testing.T) {
	a, b, c, d := one(3), one(5), one(4), one(null)
	for _, x := range all(t, ints(null, 3, 3, 5, 7)) {
		wantRange(t, x, nil, nil, 0, 1, 2, 3, 4)
		wantRange(t, x, &a, nil, 1, 2, 3, 4)
		wantRange(t, x, nil, &a, 0, 1, 2)
		wantRange(t, x, &a, &b, 1, 2, 3)
		wantRange(t, x, &a, &a, 1, 2)
		wantRange(t, x, &c, nil, 3, 4)
		wantRange(t, x, nil, &c, 0, 1, 2)
		wantRange(t, x, &c, &c)
		wantRange(t, x, &b, &a)
		wantRange(t, x, &d, &d, 0)
		wantRange(t, x, &d, nil, 0, 1, 2, 3, 4)
		wantRange(t, x, nil, &d, 0)
	}
	for _, x := range all(t, ints(5, 3, 7, null, 3)) {
		wantRange(t, x, &a, &b, 0, 1, 4)
		wantRange(t, x, &c, nil, 0, 2)
		wantRange(t, x, nil, &a, 1, 3, 4)
		wantRange(t, x, &b, &a)
		wantRange(t, x, nil, nil, 0, 1, 2, 3, 4)
	}
	e, f := symbol("ab"), symbol("b")
	for _, x := range all(t, symbols("", "a", "ab", "abc", "b", "ba")) {
		wantRange(t, x, &e, &f, 2, 3, 4)
		wantRange(t, x, &f, nil, 4, 5)
		wantRange(t, x, nil, &e, 0, 1, 2)
		wantRange(t, x, &f, &e)
	}
	no, yes := truth(0), truth(1)
	for _, x := range all(t, bools(0, 0, 1)) {
		wantRange(t, x, &yes, nil, 2)
		wantRange(t, x, nil, &no, 0, 1)
		wantRange(t, x, &yes, &no)
		wantRange(t, x, &no, &yes, 0, 1, 2)
	}
}

// TestGroups: P9.6: by hand.
func TestGroups(t *testing.T) {
	for _, x := range all(t, ints(3, null, 3, 1, null, 3)) {
		wantGroups(t, x, ints(3, null, 1), []int{0, 2, 5}, []int{1, 4}, []int{3})
	}
	for _, x := range all(t, symbols("b", "", "", "a")) {
		wantGroups(t, x, symbols("b", "", "a"), []int{0}, []int{1, 2}, []int{3})
	}
	for _, x := range all(t, bools(1, 1, 0)) {
		wantGroups(t, x, bools(1, 0), []int{0, 1}, []int{2})
	}
	for _, x := range all(t, times(4, 4)) {
		wantGroups(t, x, times(4), []int{0, 1})
	}
	for _, x := range all(t, decs(1, 2, 3)) {
		wantGroups(t, x, decs(1, 2, 3), []int{0}, []int{1}, []int{2})
	}
}

// TestNothingToFind: P9.4 to P9.6: of a vector without elements.
func TestNothingToFind(t *testing.T) {
	for _, k := range types() {
		for _, x := range all(t, api.V{T: k}) {
			a := drawnAtom(draws(1), k)
			wantFind(t, x, a)
			wantRange(t, x, nil, nil)
			wantRange(t, x, &a, nil)
			wantRange(t, x, nil, &a)
			wantRange(t, x, &a, &a)
			wantGroups(t, x, api.V{T: k})
		}
	}
}

// TestFindTypes: P9.4, P9.5: what is no atom of the vector's type.
func TestFindTypes(t *testing.T) {
	for _, k := range types() {
		for _, v := range []api.V{{T: k}, drawn(draws(2), k, 4)} {
			fits := drawnAtom(draws(3), k)
			for _, x := range all(t, v) {
				for _, a := range append(others(), v, list(fits)) {
					if a.T != -k {
						wantNoAtom(t, x, a, fits)
					}
				}
			}
		}
	}
}

func wantNoAtom(t *testing.T, x *attr.Index, a, fits api.V) {
	t.Helper()
	l, e := x.Find(a)
	is(t, "Find of "+told(a), e, api.ErrType)
	is(t, "Find of "+told(a), l == nil, true)
	n, e := x.First(a)
	is(t, "First of "+told(a), e, api.ErrType)
	is(t, "First of "+told(a), n, 0)
	for _, bounds := range [][2]*api.V{{&a, nil}, {nil, &a}, {&a, &a}, {&a, &fits}, {&fits, &a}} {
		l, e := x.Range(bounds[0], bounds[1])
		is(t, "Range of "+told(a), e, api.ErrType)
		is(t, "Range of "+told(a), l == nil, true)
	}
}

// wantFound holds all that an index finds against what the vector has, element by element: P9.4 to P9.6, P9.8.
func wantFound(t *testing.T, x *attr.Index, v api.V, atoms ...api.V) {
	t.Helper()
	l := elements(v)
	places := func(is func(a api.V) bool) []int {
		var found []int
		for i, a := range l {
			if is(a) {
				found = append(found, i)
			}
		}
		return found
	}
	wantRange(t, x, nil, nil, places(func(api.V) bool { return true })...)
	for _, a := range atoms {
		wantFind(t, x, a, places(func(b api.V) bool { return value.Compare(b, a) == 0 })...)
		wantRange(t, x, &a, nil, places(func(b api.V) bool { return value.Compare(b, a) >= 0 })...)
		wantRange(t, x, nil, &a, places(func(b api.V) bool { return value.Compare(b, a) <= 0 })...)
		for _, c := range atoms {
			wantRange(t, x, &a, &c, places(func(b api.V) bool { return value.Compare(b, a) >= 0 && value.Compare(b, c) <= 0 })...)
		}
	}
	var unlike []api.V
	var groups [][]int
	for i, a := range l {
		equal := places(func(b api.V) bool { return value.Compare(b, a) == 0 })
		if equal[0] == i {
			unlike, groups = append(unlike, a), append(groups, equal)
		}
	}
	wantGroups(t, x, joined(v.T, unlike...), groups...)
}

// TestFoundDrawn: P9.4 to P9.6, P9.8: drawn vectors: the same is found, whatever the mark.
func TestFoundDrawn(t *testing.T) {
	draw := draws(92)
	for range 400 {
		for _, k := range types() {
			v := drawn(draw, k, draw(9))
			for _, x := range all(t, v) {
				wantFound(t, x, v, drawnAtom(draw, k), drawnAtom(draw, k), drawnAtom(draw, k))
			}
		}
	}
}

// TestFoundLong: P9.8: as many elements as a vector may have.
func TestFoundLong(t *testing.T) {
	n := make([]int64, api.MaxCount)
	for i := range n {
		n[i] = int64(i / 4)
	}
	lo, hi := one(100), one(102)
	for _, mark := range []int{api.AttrNone, api.AttrSorted, api.AttrGrouped, api.AttrParted} {
		x := built(t, mark, ints(n...))
		wantFind(t, x, one(api.MaxCount/4-1), api.MaxCount-4, api.MaxCount-3, api.MaxCount-2, api.MaxCount-1)
		wantFind(t, x, one(api.MaxCount/4))
		wantRange(t, x, &lo, &hi, 400, 401, 402, 403, 404, 405, 406, 407, 408, 409, 410, 411)
		unlike, groups := x.Groups()
		is(t, "Groups", len(unlike.N), api.MaxCount/4)
		is(t, "Groups", len(groups), api.MaxCount/4)
		is(t, "Groups", groups[9][3], 39)
	}
}
