package agg_test

import (
	"fmt"
	"math"
	"testing"

	"quiver/agg"
	"quiver/api"
	"quiver/value"
)

// roomy is v in memory of its own, with spare room behind each list.
func roomy(v api.V) api.V {
	w := api.V{T: v.T, N: append(make([]int64, 0, len(v.N)+3), v.N...), S: append(make([]string, 0, len(v.S)+3), v.S...), L: make([]api.V, 0, len(v.L)+3)}
	for _, x := range v.L {
		w.L = append(w.L, roomy(x))
	}
	return w
}

// scribble writes over all that v has, spare room too.
func scribble(v api.V) {
	for i := range v.N[:cap(v.N)] {
		v.N[:cap(v.N)][i] = -77
	}
	for i := range v.S[:cap(v.S)] {
		v.S[:cap(v.S)][i] = "scribbled"
	}
	for i, x := range v.L[:cap(v.L)] {
		scribble(x)
		v.L[:cap(v.L)][i] = api.V{T: 77}
	}
}

// asItWas tells whether all of v, which roomy made of was, is as it was, spare room too.
func asItWas(v, was api.V) bool {
	if !value.Match(v, was) {
		return false
	}
	for _, n := range v.N[len(v.N):cap(v.N)] {
		if n != 0 {
			return false
		}
	}
	for _, s := range v.S[len(v.S):cap(v.S)] {
		if s != "" {
			return false
		}
	}
	for i, x := range v.L[:cap(v.L)] {
		if i < len(v.L) && !asItWas(x, was.L[i]) || i >= len(v.L) && !value.Match(x, api.V{}) {
			return false
		}
	}
	return true
}

func untouched(t *testing.T, what string, mine, was api.V) {
	t.Helper()
	if !asItWas(mine, was) {
		t.Fatalf("%s changed %s to %s", what, told(was), told(mine))
	}
}

// calls are all calls that answer a value, of two values: what they need not they leave alone.
func calls() map[string]func(v, x api.V) (api.V, api.Errno) {
	all := map[string]func(v, x api.V) (api.V, api.Errno){
		"Distinct": func(v, x api.V) (api.V, api.Errno) { return agg.Distinct(v) },
		"Find": func(v, x api.V) (api.V, api.Errno) {
			n, e := agg.Find(v, x)
			if e != api.OK {
				return api.V{N: make([]int64, n)}, e // 0 beside an error
			}
			return one(int64(n)), e
		},
	}
	for name, call := range along() {
		all[name] = func(v, x api.V) (api.V, api.Errno) { return call(v) }
	}
	for _, down := range []bool{false, true} {
		all[fmt.Sprint("Grade ", down)] = func(v, x api.V) (api.V, api.Errno) { return agg.Grade(v, down) }
		all[fmt.Sprint("Sort ", down)] = func(v, x api.V) (api.V, api.Errno) { return agg.Sort(v, down) }
	}
	for op := range api.AggAvg + 1 {
		all[fmt.Sprint("Do ", op)] = func(v, x api.V) (api.V, api.Errno) { return agg.Do(op, v) }
		all[fmt.Sprint("Add ", op)] = func(v, x api.V) (api.V, api.Errno) {
			a, _ := agg.Open(op)
			return agg.Close(agg.Add(a, v, x))
		}
		all[fmt.Sprint("Merge ", op)] = func(v, x api.V) (api.V, api.Errno) {
			a, _ := agg.Open(op)
			return agg.Close(agg.Merge(a, agg.Add(a, v), agg.Add(a, x)))
		}
	}
	return all
}

// handed draws two values, often of one type.
func handed(draw func(int) int) (v, x api.V) {
	v, x = sequence(draw), sequence(draw)
	if l := elements(v); len(l) > 0 && draw(2) == 0 {
		x = l[draw(len(l))]
	} else if v.T > api.KList {
		x = flat(draw, v.T, draw(3))
	}
	return v, x
}

// TestApart: rule 3: what is answered shares nothing with what was handed in, nor with another answer, and nothing there is changed.
func TestApart(t *testing.T) {
	draw := draws(91)
	for range 1500 {
		v, x := handed(draw)
		for name, call := range calls() {
			mine := roomy(list(v, x))
			got, e := call(mine.L[0], mine.L[1])
			again, _ := call(mine.L[0], mine.L[1])
			want := value.Clone(got)
			untouched(t, name, mine, list(v, x))
			scribble(got)
			untouched(t, name+", whose answer is shared,", mine, list(v, x))
			is(t, name+": twice", value.Match(again, want), true)
			scribble(mine)
			is(t, name+": apart", value.Match(again, want), true)
			if e == api.OK {
				is(t, name+": a value", value.Check(again), api.OK)
			}
		}
	}
}

// parts are what an Acc has of values.
func parts(a api.Acc) api.V { return list(a.First, a.Last) }

// cloned is an Acc in memory of its own.
func cloned(a api.Acc) api.Acc {
	a.First, a.Last = value.Clone(a.First), value.Clone(a.Last)
	return a
}

// roomyAcc is an Acc in memory of its own, with spare room.
func roomyAcc(a api.Acc) api.Acc {
	a.First, a.Last = roomy(a.First), roomy(a.Last)
	return a
}

// TestAccsApart: rule 3: Accs that are answered share nothing with Accs, or values, that are handed in, which stay as they are.
func TestAccsApart(t *testing.T) {
	draw := draws(92)
	for range 3000 {
		v, x := handed(draw)
		for op := range api.AggAvg + 1 {
			a, b := added(t, op, v), added(t, op, x)
			for name, call := range map[string]func(a, b api.Acc, v api.V) api.Acc{
				"Add":           func(a, b api.Acc, v api.V) api.Acc { return agg.Add(a, v) },
				"Add nothing":   func(a, b api.Acc, v api.V) api.Acc { return agg.Add(a) },
				"Merge":         func(a, b api.Acc, v api.V) api.Acc { return agg.Merge(a, b) },
				"Merge nothing": func(a, b api.Acc, v api.V) api.Acc { return agg.Merge(a) },
				"Merge behind":  func(a, b api.Acc, v api.V) api.Acc { return agg.Merge(opened(t, op), a, b) },
			} {
				p, q, mine := roomyAcc(a), roomyAcc(b), roomy(v)
				got := call(p, q, mine)
				again := call(p, q, mine)
				want := cloned(got)
				scribble(parts(got))
				untouched(t, name, mine, v)
				untouched(t, name, list(p.First, p.Last, q.First, q.Last), list(a.First, a.Last, b.First, b.Last))
				scribble(list(p.First, p.Last, q.First, q.Last, mine))
				wantAcc(t, name, again, want)
			}
			mine := roomyAcc(a)
			got, _ := agg.Close(mine)
			scribble(got)
			untouched(t, "Close", parts(mine), parts(a))
		}
	}
}

// TestNilOrEmpty: rule 3: nil and an empty list are the same.
func TestNilOrEmpty(t *testing.T) {
	for k := api.KList; k <= api.KDec; k++ {
		bare, full := api.V{T: k}, api.V{T: k, N: []int64{}, S: []string{}, L: []api.V{}}
		for name, call := range calls() {
			a, e := call(bare, bare)
			b, f := call(full, full)
			is(t, name, e, f)
			is(t, name, value.Match(a, b), true)
		}
	}
	a := added(t, api.AggSum, ints(1))
	wantAcc(t, "Add", agg.Add(a, []api.V{}...), a)
	wantAcc(t, "Merge", agg.Merge(a, []api.Acc{}...), a)
}

// junk draws anything at all.
func junk(draw func(int) int, depth int) api.V {
	kinds := []int{0, 1, 2, 3, 4, 5, -1, -2, -3, -4, -5, 6, -6, 98, 99, 100, 101, -98, -101, math.MinInt, math.MaxInt, 0, 1, 2, 3, 4, 5, 0, 1, 2, 3, 4, 5}
	v := api.V{T: kinds[draw(len(kinds))]}
	for range draw(4) {
		v.N = append(v.N, []int64{0, 1, -1, 2, null, greatest}[draw(6)])
	}
	for range draw(4) {
		v.S = append(v.S, []string{"", "a", "{}", "a\x00"}[draw(4)])
	}
	for range draw(4) * min(depth, 1) {
		v.L = append(v.L, junk(draw, depth-1))
	}
	return v
}

// junkAcc draws an Acc that no call has made.
func junkAcc(draw func(int) int) api.Acc {
	number := func() int64 {
		return []int64{0, 1, -1, 2, null, greatest, 1 << 32, -1 << 32, 1 << 31, least}[draw(10)]
	}
	return api.Acc{Op: draw(9) - 1, T: draw(8) - 2, Count: number(), Some: number(), Hi: number(), Lo: number(), First: junk(draw, 2), Last: junk(draw, 2), Err: api.Errno(max(draw(40)-35, 0))}
}

// TestTotal: rule 1: no call panics, whatever is handed in, and beside an error is nothing.
func TestTotal(t *testing.T) {
	draw := draws(93)
	for range 20000 {
		v, x := junk(draw, draw(3)), junk(draw, draw(3))
		mine := roomy(list(v, x))
		for name, call := range calls() {
			got, e := call(mine.L[0], mine.L[1])
			if e != api.OK && !value.Match(got, api.V{}) {
				t.Fatalf("%s of %s: %s beside error %d", name, told(v, x), told(got), e)
			}
			untouched(t, name, mine, list(v, x))
		}
		a, b := junkAcc(draw), junkAcc(draw)
		for _, acc := range []api.Acc{a, agg.Add(a, v, x), agg.Merge(a, b), agg.Merge(a, a)} {
			got, e := agg.Close(acc)
			if e != api.OK && !value.Match(got, api.V{}) {
				t.Fatalf("Close of %v: %s beside error %d", acc, told(got), e)
			}
		}
	}
}
