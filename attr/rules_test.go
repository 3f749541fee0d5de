package attr_test

import (
	"math"
	"slices"
	"testing"

	"quiver/api"
	"quiver/attr"
	"quiver/value"
)

// TestNil: P9.7: the calls on a nil Index.
func TestNil(t *testing.T) {
	var x *attr.Index
	is(t, "Kind", x.Kind(), api.AttrNone)
	is(t, "Vector", value.Match(x.Vector(), api.V{}), true)
	a := one(1)
	for _, v := range append(others(), ints(1)) {
		l, e := x.Find(v)
		is(t, "Find", e, api.ErrNone)
		is(t, "Find", l == nil, true)
		n, e := x.First(v)
		is(t, "First", e, api.ErrNone)
		is(t, "First", n, 0)
		for _, bounds := range [][2]*api.V{{nil, nil}, {&v, nil}, {nil, &v}, {&a, &v}} {
			l, e = x.Range(bounds[0], bounds[1])
			is(t, "Range", e, api.ErrNone)
			is(t, "Range", l == nil, true)
		}
		yes, e := x.Append(v)
		is(t, "Append", e, api.ErrNone)
		is(t, "Append", yes, false)
		for _, place := range []int{-1, 0, 1} {
			yes, e = x.Set(place, v)
			is(t, "Set", e, api.ErrNone)
			is(t, "Set", yes, false)
		}
	}
	unlike, groups := x.Groups()
	is(t, "Groups", value.Match(unlike, api.V{}), true)
	is(t, "Groups", len(groups), 0)
}

// roomy is v in memory of its own, with spare room behind each list.
func roomy(v api.V) api.V {
	return api.V{T: v.T, N: append(make([]int64, 0, len(v.N)+3), v.N...), S: append(make([]string, 0, len(v.S)+3), v.S...)}
}

// scribble writes over all that v has, spare room too.
func scribble(v api.V) {
	for i := range v.N[:cap(v.N)] {
		v.N[:cap(v.N)][i] = -77
	}
	for i := range v.S[:cap(v.S)] {
		v.S[:cap(v.S)][i] = "scribbled"
	}
}

func scribbleInts(l ...[]int) {
	for _, n := range l {
		for i := range n[:cap(n)] {
			n[:cap(n)][i] = -77
		}
	}
}

// asItWas tells whether all of v, which roomy made of was, is as it was, spare room too.
func asItWas(v, was api.V) bool {
	for _, n := range v.N[len(v.N):cap(v.N)] {
		if n != 0 {
			return false
		}
	}
	for _, s := range v.S[len(v.S):cap(v.S)] {
		if s != "" {
			return false
		}
	}
	return value.Match(v, was)
}

// handed calls with a copy of v, of which nothing may be changed, and writes over it afterwards: nothing of it may be kept.
func handed(t *testing.T, what string, v api.V, call func(v api.V)) {
	t.Helper()
	mine := roomy(v)
	call(mine)
	is(t, what, asItWas(mine, v), true)
	scribble(mine)
}

// TestHanded: rule 3: what is handed in is not changed, and not kept.
func TestHanded(t *testing.T) {
	draw := draws(94)
	for range 300 {
		for _, k := range types() {
			v, more, a := drawn(draw, k, 1+draw(4)), drawn(draw, k, draw(4)), drawnAtom(draw, k)
			mark := marks()[draw(5)]
			handed(t, "Valid", v, func(v api.V) { attr.Valid(mark, v) })
			var x *attr.Index
			handed(t, "Build", v, func(v api.V) { x, _ = attr.Build(mark, v) })
			if x == nil {
				continue
			}
			handed(t, "Append", more, func(more api.V) { x.Append(more) })
			l := append(elements(v), elements(more)...)
			place := draw(len(l))
			handed(t, "Set", a, func(a api.V) { x.Set(place, a) })
			l[place] = a
			handed(t, "Find", a, func(a api.V) { x.Find(a) })
			handed(t, "First", a, func(a api.V) { x.First(a) })
			handed(t, "Range", a, func(a api.V) {
				b := a
				x.Range(&a, nil)
				x.Range(nil, &a)
				x.Range(&a, &b)
				is(t, "Range", a.T == b.T && len(a.N) == len(b.N) && len(a.S) == len(b.S), true)
			})
			wantIndex(t, x, x.Kind(), joined(k, l...))
			wantFound(t, x, joined(k, l...), a, drawnAtom(draw, k))
		}
	}
}

// TestAnswered: rule 3: what is answered shares nothing with what is kept, and is new each time; of Groups no two lists share anything.
func TestAnswered(t *testing.T) {
	draw := draws(95)
	for range 300 {
		for _, k := range types() {
			v, a := drawn(draw, k, draw(6)), drawnAtom(draw, k)
			for _, x := range all(t, v) {
				wantNew(t, x, v, a)
				x.Append(joined(k, a, a))
				wantNew(t, x, x.Vector(), a)
			}
		}
	}
}

// wantNew writes over each answer, and asks again.
func wantNew(t *testing.T, x *attr.Index, v, a api.V) {
	t.Helper()
	mark := x.Kind()
	answer, again := x.Vector(), x.Vector()
	scribble(answer)
	is(t, "Vector", value.Match(again, v), true)
	for _, ask := range []func() ([]int, api.Errno){
		func() ([]int, api.Errno) { return x.Find(a) },
		func() ([]int, api.Errno) { return x.Range(&a, nil) },
		func() ([]int, api.Errno) { return x.Range(nil, nil) },
	} {
		l, _ := ask()
		other, _ := ask()
		was := slices.Clone(other)
		scribbleInts(l)
		is(t, "places", slices.Equal(other, was), true)
	}
	unlike, groups := x.Groups()
	scribble(unlike)
	for i, l := range groups {
		behind := [][]int{}
		for _, later := range groups[i+1:] {
			behind = append(behind, slices.Clone(later))
		}
		scribbleInts(l)
		is(t, "Groups", slices.EqualFunc(groups[i+1:], behind, slices.Equal), true)
	}
	wantIndex(t, x, mark, v)
	wantFound(t, x, v, a)
}

// TestTwo: rule 4: two indexes of one vector know nothing of each other.
func TestTwo(t *testing.T) {
	v := ints(1, 2, 3)
	x, y := built(t, api.AttrSorted, v), built(t, api.AttrSorted, v)
	wantAppend(t, x, ints(1), false)
	wantSet(t, x, 1, one(9), true)
	wantIndex(t, y, api.AttrSorted, v)
	wantFound(t, y, v, one(1), one(2), one(9))
	wantFound(t, x, ints(1, 9, 3, 1), one(1), one(2), one(9))
}

// junk draws anything at all.
func junk(draw func(int) int, depth int) api.V {
	kinds := []int{0, 1, 2, 3, 4, 5, -1, -2, -3, -4, -5, 6, -6, 98, 99, 100, 101, -98, -101, math.MinInt, math.MaxInt, 1, 2, 3, 4, 5, -1, -2, -3, -4, -5}
	v := api.V{T: kinds[draw(len(kinds))]}
	for range draw(4) {
		v.N = append(v.N, []int64{0, 1, -1, 2, null, greatest}[draw(6)])
	}
	for range draw(4) {
		v.S = append(v.S, []string{"", "a", "{}", "a\x00"}[draw(4)])
	}
	for range draw(4) * min(depth, 1) {
		v.L = append(v.L, junk(draw, depth-1))
	}
	return v
}

// TestTotal: rule 1: no call panics, whatever is handed in, and beside an error is nothing.
func TestTotal(t *testing.T) {
	draw := draws(96)
	for range 30000 {
		v, a, b := junk(draw, draw(3)), junk(draw, draw(3)), junk(draw, draw(3))
		mark := draw(7) - 1
		x, e := attr.Build(mark, v)
		is(t, "Build", e, attr.Valid(mark, v))
		is(t, "Build", x == nil, e != api.OK)
		if x == nil {
			continue
		}
		for range 3 {
			yes, e := x.Append(b)
			is(t, "Append", yes && e != api.OK, false)
			yes, e = x.Set(draw(6)-1, a)
			is(t, "Set", yes && e != api.OK, false)
			a, b = b, a
		}
		l, e := x.Find(a)
		is(t, "Find", len(l) > 0 && e != api.OK, false)
		n, e := x.First(a)
		is(t, "First", n != 0 && e != api.OK, false)
		l, e = x.Range(&a, &b)
		is(t, "Range", len(l) > 0 && e != api.OK, false)
		x.Range(nil, &b)
		x.Groups()
		is(t, "Valid", attr.Valid(x.Kind(), x.Vector()), api.OK)
	}
}
