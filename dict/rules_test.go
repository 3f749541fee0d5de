package dict_test

import (
	"math"
	"testing"

	"quiver/api"
	"quiver/dict"
	"quiver/value"
)

// roomy is v in memory of its own, with spare room behind each list.
func roomy(v api.V) api.V {
	w := api.V{T: v.T, N: append(make([]int64, 0, len(v.N)+3), v.N...), S: append(make([]string, 0, len(v.S)+3), v.S...), L: make([]api.V, 0, len(v.L)+3)}
	for _, x := range v.L {
		w.L = append(w.L, roomy(x))
	}
	return w
}

// scribble writes over all that v has, spare room too.
func scribble(v api.V) {
	for i := range v.N[:cap(v.N)] {
		v.N[:cap(v.N)][i] = -77
	}
	for i := range v.S[:cap(v.S)] {
		v.S[:cap(v.S)][i] = "scribbled"
	}
	for i, x := range v.L[:cap(v.L)] {
		scribble(x)
		v.L[:cap(v.L)][i] = api.V{T: 77}
	}
}

// asItWas tells whether all of v, which roomy made of was, is as it was, spare room too.
func asItWas(v, was api.V) bool {
	if !value.Match(v, was) {
		return false
	}
	for _, n := range v.N[len(v.N):cap(v.N)] {
		if n != 0 {
			return false
		}
	}
	for _, s := range v.S[len(v.S):cap(v.S)] {
		if s != "" {
			return false
		}
	}
	for i, x := range v.L[:cap(v.L)] {
		if i < len(v.L) && !asItWas(x, was.L[i]) || i >= len(v.L) && !value.Match(x, api.V{}) {
			return false
		}
	}
	return true
}

func untouched(t *testing.T, what string, mine, l []api.V) {
	t.Helper()
	if !asItWas(api.V{L: mine}, api.V{L: l}) {
		t.Fatalf("%s changed %s to %s", what, told(l...), told(mine...))
	}
}

// calls are all calls, of three values: what they need not they leave alone.
func calls() map[string]func(l []api.V) (api.V, api.Errno) {
	return map[string]func(l []api.V) (api.V, api.Errno){
		"Make":   func(l []api.V) (api.V, api.Errno) { return dict.Make(l[1], l[2]) },
		"Keys":   func(l []api.V) (api.V, api.Errno) { return dict.Keys(l[0]) },
		"Values": func(l []api.V) (api.V, api.Errno) { return dict.Values(l[0]) },
		"Find": func(l []api.V) (api.V, api.Errno) {
			n, e := dict.Find(l[0], l[1])
			if e != api.OK {
				return api.V{N: make([]int64, n)}, e // 0 beside an error
			}
			return one(int64(n)), e
		},
		"Get":             func(l []api.V) (api.V, api.Errno) { return dict.Get(l[0], l[1:]...) },
		"Get one":         func(l []api.V) (api.V, api.Errno) { return dict.Get(l[0], l[1]) },
		"Get none":        func(l []api.V) (api.V, api.Errno) { return dict.Get(l[0]) },
		"Get twice":       func(l []api.V) (api.V, api.Errno) { return dict.Get(l[0], l[1], l[1]) },
		"Put":             func(l []api.V) (api.V, api.Errno) { return dict.Put(l[0], l[1], l[2]) },
		"Drop":            func(l []api.V) (api.V, api.Errno) { return dict.Drop(l[0], l[1:]...) },
		"Drop one":        func(l []api.V) (api.V, api.Errno) { return dict.Drop(l[0], l[1]) },
		"Drop none":       func(l []api.V) (api.V, api.Errno) { return dict.Drop(l[0]) },
		"Join":            func(l []api.V) (api.V, api.Errno) { return dict.Join(l...) },
		"Join one":        func(l []api.V) (api.V, api.Errno) { return dict.Join(l[0]) },
		"Join itself":     func(l []api.V) (api.V, api.Errno) { return dict.Join(l[0], l[0]) },
		"Unique":          func(l []api.V) (api.V, api.Errno) { return dict.Unique(l[0]) },
		"SortKeys":        func(l []api.V) (api.V, api.Errno) { return dict.SortKeys(l[0], false) },
		"SortKeys down":   func(l []api.V) (api.V, api.Errno) { return dict.SortKeys(l[0], true) },
		"SortValues":      func(l []api.V) (api.V, api.Errno) { return dict.SortValues(l[0], false) },
		"SortValues down": func(l []api.V) (api.V, api.Errno) { return dict.SortValues(l[0], true) },
		"Group":           func(l []api.V) (api.V, api.Errno) { return dict.Group(l[1]) },
		"Append":          func(l []api.V) (api.V, api.Errno) { return dict.Append(l[1], l[2]) },
	}
}

// handed draws three values that all calls can do something with: a dictionary, and its keys, elements, sequences or dictionaries.
func handed(draw func(int) int) []api.V {
	d := drawn(draw)
	l := make([]api.V, 0, 5)
	l = append(l, d)
	switch draw(3) {
	case 0:
		l = append(l, asked(draw, d, 2)...)
	case 1:
		count := draw(4)
		l = append(l, sequence(draw, count), sequence(draw, count))
	default:
		l = append(l, drawn(draw), drawn(draw))
	}
	return l
}

func roomyAll(l []api.V) []api.V { return roomy(list(l...)).L }

// TestApart: rule 3: what is answered shares nothing with what was handed in, nor with another answer, and nothing there is changed. P10.1 to P10.6: it is a value.
func TestApart(t *testing.T) {
	draw := draws(111)
	for range 4000 {
		l := handed(draw)
		for name, call := range calls() {
			mine := roomyAll(l)
			got, e := call(mine)
			again, _ := call(mine)
			want := value.Clone(got)
			untouched(t, name, mine, l)
			scribble(got)
			untouched(t, name+", whose answer is shared,", mine, l)
			is(t, name+": twice", value.Match(again, want), true)
			scribble(api.V{L: mine})
			is(t, name+": apart", value.Match(again, want), true)
			if e == api.OK {
				is(t, name+": a value", value.Check(again), api.OK)
			}
		}
	}
}

// TestPartsApart: rule 7 of the language: no two lists of one answer share anything.
func TestPartsApart(t *testing.T) {
	l := list(ints(1, 2), ints(1, 2))
	for name, call := range map[string]func() (api.V, api.Errno){
		"Make":     func() (api.V, api.Errno) { return dict.Make(l, l) },
		"Put":      func() (api.V, api.Errno) { return dict.Put(pairs(l, l), l.L[0], l.L[0]) },
		"Join":     func() (api.V, api.Errno) { return dict.Join(pairs(l, l), pairs(l, l)) },
		"SortKeys": func() (api.V, api.Errno) { return dict.SortKeys(pairs(l, l), true) },
		"Drop":     func() (api.V, api.Errno) { return dict.Drop(pairs(l, l), ints(9)) },
	} {
		d, e := call()
		is(t, name, e, api.OK)
		scribble(d.L[0].L[0])
		scribble(d.L[0].L[1])
		is(t, name, value.Match(d.L[1], l), true)
		scribble(d.L[1].L[0])
		is(t, name, value.Match(d.L[1].L[1], ints(1, 2)), true)
	}
	got, e := dict.Get(pairs(ints(1), list(ints(1, 2))), one(1), one(1), one(2), one(2))
	is(t, "Get", e, api.OK)
	scribble(got.L[0])
	is(t, "Get", value.Match(got.L[1], ints(1, 2)), true)
	added, e := dict.Append(list(l, l), l)
	is(t, "Append", e, api.OK)
	scribble(added.L[0])
	is(t, "Append", value.Match(added.L[1], l), true)
	scribble(added.L[1])
	is(t, "Append", value.Match(added.L[2], l), true)
}

// TestNilOrEmpty: rule 3: nil and an empty list are the same.
func TestNilOrEmpty(t *testing.T) {
	for k := api.KList; k <= api.KDec; k++ {
		bare, full := api.V{T: k}, api.V{T: k, N: []int64{}, S: []string{}, L: []api.V{}}
		d, other := pairs(bare, bare), pairs(full, full)
		other.N, other.S = []int64{}, []string{}
		for name, call := range calls() {
			for _, l := range [][2][]api.V{{{d, bare, bare}, {other, full, full}}, {{d, d, d}, {other, other, other}}, {{d, one(1), one(1)}, {other, one(1), one(1)}}} {
				a, e := call(l[0])
				b, f := call(l[1])
				is(t, name, e, f)
				is(t, name, value.Match(a, b), true)
			}
		}
	}
	d := pairs(ints(1), ints(2))
	wantGet(t, ints(), d, []api.V{}...)
	wantDrop(t, d, d, []api.V{}...)
	wantJoin(t, pairs(list(), list()), []api.V{}...)
}

// junk draws anything at all, often a dictionary of two parts.
func junk(draw func(int) int, depth int) api.V {
	kinds := []int{0, 1, 2, 3, 4, 5, -1, -2, -3, -4, -5, 6, -6, 98, 99, 100, 101, -98, -99, math.MinInt, math.MaxInt, 0, 0, 0, 2, 3, 99, 99, -2, -2, -3}
	v := api.V{T: kinds[draw(len(kinds))]}
	for range draw(3) {
		v.N = append(v.N, []int64{0, 1, -1, 2, null, math.MaxInt64}[draw(6)])
	}
	for range draw(3) {
		v.S = append(v.S, []string{"", "a", "{}", "a\x00"}[draw(4)])
	}
	parts := draw(4)
	if v.T == api.KDict && draw(4) > 0 {
		parts = 2
	}
	for range parts * min(depth, 1) {
		v.L = append(v.L, junk(draw, depth-1))
	}
	return v
}

// TestTotal: rule 1: no call panics, whatever is handed in, and beside an error is nothing.
func TestTotal(t *testing.T) {
	draw := draws(112)
	for range 20000 {
		l := []api.V{junk(draw, draw(4)), junk(draw, draw(4)), junk(draw, draw(4))}
		if draw(2) == 0 {
			l[0] = pairs(l[0], l[1])
		}
		if draw(3) == 0 && len(l[0].L) > 0 && len(l[0].L[0].L) > 0 {
			l[1] = l[0].L[0].L[draw(len(l[0].L[0].L))]
		}
		mine := roomyAll(l)
		for name, call := range calls() {
			v, e := call(mine)
			if e != api.OK && !value.Match(v, api.V{}) {
				t.Fatalf("%s of %s: %s beside error %d", name, told(l...), told(v), e)
			}
			untouched(t, name, mine, l)
		}
	}
}
