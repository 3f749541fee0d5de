package attr_test

import (
	"fmt"
	"math"
	"slices"
	"testing"

	"quiver/api"
	"quiver/attr"
	"quiver/value"
)

func wantAppend(t *testing.T, x *attr.Index, v api.V, want bool) {
	t.Helper()
	got, e := x.Append(v)
	is(t, "Append of "+told(v), e, api.OK)
	is(t, "Append of "+told(v), got, want)
}

func wantSet(t *testing.T, x *attr.Index, at int, a api.V, want bool) {
	t.Helper()
	got, e := x.Set(at, a)
	what := fmt.Sprint("Set ", at, " to ", told(a))
	is(t, what, e, api.OK)
	is(t, what, got, want)
}

// wantKept appends to, or sets in, an index of each mark that v may have, and asks which marks stay.
func wantKept(t *testing.T, v api.V, change func(x *attr.Index) (bool, api.Errno), changed api.V, kept ...int) {
	t.Helper()
	for _, mark := range marks() {
		if !so(mark, v) {
			continue
		}
		x := built(t, mark, v)
		stays, e := change(x)
		is(t, "change", e, api.OK)
		is(t, fmt.Sprint("mark ", mark, " of ", told(v, changed)), stays, slices.Contains(kept, mark))
		if stays {
			wantIndex(t, x, mark, changed)
		} else {
			wantIndex(t, x, api.AttrNone, changed)
		}
	}
}

// TestAppend: P9.7: which marks stay, by hand.
func TestAppend(t *testing.T) {
	const none, sorted, unique, grouped, parted = api.AttrNone, api.AttrSorted, api.AttrUnique, api.AttrGrouped, api.AttrParted
	for _, c := range []struct {
		v, more api.V
		kept    []int
	}{
		{ints(1, 2), ints(3), []int{none, sorted, unique, grouped, parted}},
		{ints(1, 2), ints(), []int{none, sorted, unique, grouped, parted}},
		{ints(1, 2), ints(2), []int{none, sorted, grouped, parted}},
		{ints(1, 2), ints(1), []int{none, grouped}},
		{ints(1, 2), ints(0), []int{none, unique, grouped, parted}},
		{ints(1, 2), ints(null), []int{none, unique, grouped, parted}},
		{ints(1, 2), ints(3, 4, 5), []int{none, sorted, unique, grouped, parted}},
		{ints(1, 2), ints(3, 4, 4), []int{none, sorted, grouped, parted}},
		{ints(1, 2), ints(3, 5, 4), []int{none, unique, grouped, parted}},
		{ints(1, 2), ints(3, 4, 3), []int{none, grouped}},
		{ints(1, 1), ints(1, 2), []int{none, sorted, grouped, parted}},
		{ints(), ints(2, 1), []int{none, unique, grouped, parted}},
		{ints(), ints(1, 1), []int{none, sorted, grouped, parted}},
		{ints(), ints(), []int{none, sorted, unique, grouped, parted}},
		{symbols("b", "c"), symbols("c"), []int{none, sorted, grouped, parted}},
		{symbols("b", "c"), symbols(""), []int{none, unique, grouped, parted}},
		{symbols("b", "c"), symbols("bc"), []int{none, unique, grouped, parted}},
		{symbols("b", "c"), symbols("d", "é"), []int{none, sorted, unique, grouped, parted}},
		{bools(0), bools(1, 1), []int{none, sorted, grouped, parted}},
		{bools(0), bools(1, 0), []int{none, grouped}},
		{times(null), times(0), []int{none, sorted, unique, grouped, parted}},
		{decs(5), decs(-5), []int{none, unique, grouped, parted}},
	} {
		whole := joined(c.v.T, append(elements(c.v), elements(c.more)...)...)
		wantKept(t, c.v, func(x *attr.Index) (bool, api.Errno) { return x.Append(c.more) }, whole, c.kept...)
	}
}

// TestSet: P9.7: which marks stay, by hand.
func TestSet(t *testing.T) {
	const none, sorted, unique, grouped, parted = api.AttrNone, api.AttrSorted, api.AttrUnique, api.AttrGrouped, api.AttrParted
	for _, c := range []struct {
		v, a, changed api.V
		at            int
		kept          []int
	}{
		{ints(1, 3, 5), one(3), ints(1, 3, 5), 1, []int{none, sorted, unique, grouped, parted}},
		{ints(1, 3, 5), one(2), ints(1, 2, 5), 1, []int{none, sorted, unique, grouped, parted}},
		{ints(1, 3, 5), one(1), ints(1, 1, 5), 1, []int{none, sorted, grouped, parted}},
		{ints(1, 3, 5), one(5), ints(1, 5, 5), 1, []int{none, sorted, grouped, parted}},
		{ints(1, 3, 5), one(0), ints(1, 0, 5), 1, []int{none, unique, grouped, parted}},
		{ints(1, 3, 5), one(6), ints(1, 6, 5), 1, []int{none, unique, grouped, parted}},
		{ints(1, 3, 5), one(9), ints(9, 3, 5), 0, []int{none, unique, grouped, parted}},
		{ints(1, 3, 5), one(5), ints(5, 3, 5), 0, []int{none, grouped}},
		{ints(1, 3, 5), one(null), ints(null, 3, 5), 0, []int{none, sorted, unique, grouped, parted}},
		{ints(1, 3, 5), one(greatest), ints(1, 3, greatest), 2, []int{none, sorted, unique, grouped, parted}},
		{ints(1, 3, 5), one(2), ints(1, 3, 2), 2, []int{none, unique, grouped, parted}},
		{ints(1, 3, 5), one(1), ints(1, 3, 1), 2, []int{none, grouped}},
		{ints(2, 2, 2), one(1), ints(2, 1, 2), 1, []int{none, grouped}},
		{ints(2, 2, 2), one(1), ints(1, 2, 2), 0, []int{none, sorted, grouped, parted}},
		{ints(2, 2, 2), one(1), ints(2, 2, 1), 2, []int{none, grouped, parted}},
		{ints(3, 3, 1), one(1), ints(3, 1, 1), 1, []int{none, grouped, parted}},
		{ints(7), one(null), ints(null), 0, []int{none, sorted, unique, grouped, parted}},
		{symbols("a", "b", "c"), symbol("bb"), symbols("a", "bb", "c"), 1, []int{none, sorted, unique, grouped, parted}},
		{symbols("a", "b", "c"), symbol(""), symbols("a", "b", ""), 2, []int{none, unique, grouped, parted}},
		{bools(0, 1), truth(0), bools(0, 0), 1, []int{none, sorted, grouped, parted}},
		{bools(0, 0, 1), truth(1), bools(1, 0, 1), 0, []int{none, grouped}},
		{times(1, 2), at(1), times(1, 1), 1, []int{none, sorted, grouped, parted}},
		{decs(1, 2), dec(3), decs(3, 2), 0, []int{none, unique, grouped, parted}},
	} {
		wantKept(t, c.v, func(x *attr.Index) (bool, api.Errno) { return x.Set(c.at, c.a) }, c.changed, c.kept...)
	}
}

// TestDropped: P9.7: a mark that was dropped does not come back, though the vector is so again.
func TestDropped(t *testing.T) {
	for _, mark := range []int{api.AttrSorted, api.AttrUnique, api.AttrParted} {
		x := built(t, mark, ints(1, 2, 3))
		wantSet(t, x, 2, one(1), false)
		wantIndex(t, x, api.AttrNone, ints(1, 2, 1))
		wantSet(t, x, 2, one(3), true)
		wantIndex(t, x, api.AttrNone, ints(1, 2, 3))
		wantAppend(t, x, ints(3, 0), true)
		wantAppend(t, x, ints(), true)
		wantSet(t, x, 0, one(2), true)
		wantIndex(t, x, api.AttrNone, ints(2, 2, 3, 3, 0))
	}
	for _, mark := range []int{api.AttrNone, api.AttrGrouped} {
		x := built(t, mark, symbols("b", "a"))
		wantAppend(t, x, symbols("b"), true)
		wantSet(t, x, 1, symbol("b"), true)
		wantIndex(t, x, mark, symbols("b", "b", "b"))
	}
}

// wantRefused asks for an error of Append or Set, and that all is as it was.
func wantRefused(t *testing.T, what string, x *attr.Index, yes bool, e, want api.Errno, mark int, v api.V) {
	t.Helper()
	is(t, what, e, want)
	is(t, what, yes, false)
	wantIndex(t, x, mark, v)
}

// TestAppendWrong: P9.7: what is no vector of the type.
func TestAppendWrong(t *testing.T) {
	v := ints(1, 2)
	for _, x := range all(t, v) {
		mark := x.Kind()
		for _, w := range append(others(), bools(), bools(1), times(3), decs(), symbols(), symbols("a"), list()) {
			yes, e := x.Append(w)
			wantRefused(t, "Append of "+told(w), x, yes, e, api.ErrType, mark, v)
		}
		wantFound(t, x, v, one(1), one(3))
		wantAppend(t, x, ints(3), true)
	}
}

// TestAppendMany: P9.7: more than there may be; the type is asked first.
func TestAppendMany(t *testing.T) {
	n := make([]int64, api.MaxCount-2)
	for i := range n {
		n[i] = int64(i)
	}
	for _, mark := range marks() {
		x := built(t, mark, ints(n...))
		yes, e := x.Append(ints(0, 0, 0))
		wantRefused(t, "too many", x, yes, e, api.ErrMany, mark, ints(n...))
		wantFind(t, x, one(0), 0)
		yes, e = x.Append(times(0, 0, 0))
		wantRefused(t, "the type is first", x, yes, e, api.ErrType, mark, ints(n...))
		wantAppend(t, x, ints(api.MaxCount, api.MaxCount+1), true)
		full := ints(append(n[:len(n):len(n)], api.MaxCount, api.MaxCount+1)...)
		yes, e = x.Append(ints(api.MaxCount + 2))
		wantRefused(t, "one too many", x, yes, e, api.ErrMany, mark, full)
		wantAppend(t, x, ints(), true)
		wantIndex(t, x, mark, full)
	}
	x := built(t, api.AttrUnique, symbols())
	yes, e := x.Append(api.V{T: api.KSym, S: make([]string, api.MaxCount+1)})
	wantRefused(t, "too many at once", x, yes, e, api.ErrMany, api.AttrUnique, symbols())
	wantAppend(t, x, api.V{T: api.KSym, S: make([]string, api.MaxCount)}, false)
}

// TestSetWrong: P9.7: no such place, which is asked first, and what is no atom of the type.
func TestSetWrong(t *testing.T) {
	v := ints(1, 2)
	for _, x := range all(t, v) {
		mark := x.Kind()
		for _, place := range []int{-1, 2, 3, math.MinInt, math.MaxInt, 1 << 32} {
			for _, a := range []api.V{one(5), symbol("a"), ints(5), list()} {
				yes, e := x.Set(place, a)
				wantRefused(t, fmt.Sprint("Set at ", place), x, yes, e, api.ErrRange, mark, v)
			}
		}
		for _, a := range append(others(), ints(1), ints(), times(1)) {
			if a.T != -api.KInt {
				yes, e := x.Set(1, a)
				wantRefused(t, "Set to "+told(a), x, yes, e, api.ErrType, mark, v)
			}
		}
		wantFound(t, x, v, one(1), one(2), one(5))
		wantSet(t, x, 1, one(5), true)
	}
	for _, k := range types() {
		x := built(t, api.AttrSorted, api.V{T: k})
		yes, e := x.Set(0, drawnAtom(draws(4), k))
		wantRefused(t, "Set of none", x, yes, e, api.ErrRange, api.AttrSorted, api.V{T: k})
	}
}

// TestChanged: P9.7 to P9.9: drawn rows of changes, held against a vector that is changed alike: the mark stays just as long as the vector is so, and the same is found.
func TestChanged(t *testing.T) {
	draw := draws(93)
	lost := map[int]int{}
	for range 400 {
		for _, k := range types() {
			v := drawn(draw, k, draw(5))
			for _, x := range all(t, v) {
				mark := x.Kind()
				wantFollowed(t, draw, x, v)
				if x.Kind() != mark {
					lost[mark]++
				}
			}
		}
	}
	for _, mark := range []int{api.AttrSorted, api.AttrUnique, api.AttrParted} {
		is(t, "marks are dropped", lost[mark] > 300, true)
	}
	is(t, "these never", lost[api.AttrNone]+lost[api.AttrGrouped], 0)
}

// wantFollowed changes an index of v, and v, some times.
func wantFollowed(t *testing.T, draw func(int) int, x *attr.Index, v api.V) {
	t.Helper()
	for range draw(6) {
		l, mark := elements(v), x.Kind()
		var yes bool
		var e api.Errno
		if len(l) == 0 || draw(3) == 0 {
			more := drawn(draw, v.T, draw(3))
			l = append(l, elements(more)...)
			yes, e = x.Append(more)
		} else {
			place := draw(len(l))
			l[place] = drawnAtom(draw, v.T)
			yes, e = x.Set(place, l[place])
		}
		is(t, "change", e, api.OK)
		v = joined(v.T, l...)
		is(t, fmt.Sprint("mark ", mark, " of ", told(v)), yes, so(mark, v))
		if !yes {
			mark = api.AttrNone
		}
		wantIndex(t, x, mark, v)
		wantFound(t, x, v, drawnAtom(draw, v.T), drawnAtom(draw, v.T))
	}
}

// TestChangedLong: P9.9: one by one, up to as many elements as a vector may have: each change must be quick.
func TestChangedLong(t *testing.T) {
	for _, mark := range marks() {
		x := built(t, mark, ints())
		for i := range int64(api.MaxCount) {
			wantAppend(t, x, ints(2*i), true)
		}
		for i := range api.MaxCount {
			wantSet(t, x, i, one(int64(2*i+1)), true)
		}
		is(t, "Kind", x.Kind(), mark)
		v := x.Vector()
		is(t, "Valid", attr.Valid(mark, v), api.OK)
		is(t, "Vector", value.Count(v), api.MaxCount)
		is(t, "Vector", v.N[77], 155)
		wantFind(t, x, one(155), 77)
		wantFind(t, x, one(154))
	}
}
