package vec_test

import (
	"math"
	"testing"

	"quiver/api"
	"quiver/value"
	"quiver/vec"
)

// roomy is v in memory of its own, with spare room behind each list.
func roomy(v api.V) api.V {
	w := api.V{T: v.T, N: append(make([]int64, 0, len(v.N)+3), v.N...), S: append(make([]string, 0, len(v.S)+3), v.S...), L: make([]api.V, 0, len(v.L)+3)}
	for _, x := range v.L {
		w.L = append(w.L, roomy(x))
	}
	return w
}

// scribble writes over all that v has, spare room too.
func scribble(v api.V) {
	for i := range v.N[:cap(v.N)] {
		v.N[:cap(v.N)][i] = -77
	}
	for i := range v.S[:cap(v.S)] {
		v.S[:cap(v.S)][i] = "scribbled"
	}
	for i, x := range v.L[:cap(v.L)] {
		scribble(x)
		v.L[:cap(v.L)][i] = api.V{T: 77}
	}
}

// asItWas tells whether all of v, which roomy made of was, is as it was, spare room too.
func asItWas(v, was api.V) bool {
	if !value.Match(v, was) {
		return false
	}
	for _, n := range v.N[len(v.N):cap(v.N)] {
		if n != 0 {
			return false
		}
	}
	for _, s := range v.S[len(v.S):cap(v.S)] {
		if s != "" {
			return false
		}
	}
	for i, x := range v.L[:cap(v.L)] {
		if i < len(v.L) && !asItWas(x, was.L[i]) || i >= len(v.L) && !value.Match(x, api.V{}) {
			return false
		}
	}
	return true
}

func untouched(t *testing.T, what string, mine, l []api.V) {
	if !asItWas(api.V{L: mine}, api.V{L: l}) {
		t.Fatalf("%s changed %s to %s", what, told(l...), told(mine...))
	}
}

// calls are all calls, of three values: what they need not they leave alone.
func calls() map[string]func(l []api.V) (api.V, api.Errno) {
	all := map[string]func(l []api.V) (api.V, api.Errno){
		"Neg":       func(l []api.V) (api.V, api.Errno) { return vec.Neg(l[0]) },
		"Not":       func(l []api.V) (api.V, api.Errno) { return vec.Not(l[0]) },
		"Til":       func(l []api.V) (api.V, api.Errno) { return vec.Til(int64(value.Count(l[0]))) },
		"Where":     func(l []api.V) (api.V, api.Errno) { return vec.Where(l[0]) },
		"Reverse":   func(l []api.V) (api.V, api.Errno) { return vec.Reverse(l[0]) },
		"Take":      func(l []api.V) (api.V, api.Errno) { return vec.Take(3, l[0]) },
		"Take last": func(l []api.V) (api.V, api.Errno) { return vec.Take(-3, l[0]) },
		"Drop":      func(l []api.V) (api.V, api.Errno) { return vec.Drop(1, l[0]) },
		"Drop none": func(l []api.V) (api.V, api.Errno) { return vec.Drop(0, l[0]) },
		"Index":     func(l []api.V) (api.V, api.Errno) { return vec.Index(l[0], 0, 1, 0, -1) },
		"Index by":  func(l []api.V) (api.V, api.Errno) { return vec.Index(l[0], l[1].N...) },
		"Join one":  func(l []api.V) (api.V, api.Errno) { return vec.Join(l[:1]...) },
		"Join two":  func(l []api.V) (api.V, api.Errno) { return vec.Join(l[:2]...) },
		"Join":      func(l []api.V) (api.V, api.Errno) { return vec.Join(l...) },
		"Fill":      func(l []api.V) (api.V, api.Errno) { return vec.Fill(l[0], l[1]) },
	}
	for op := range api.OpGt + 1 {
		all["Do "+string(rune('0'+op))] = func(l []api.V) (api.V, api.Errno) { return vec.Do(op, l[0], l[1]) }
	}
	for _, k := range []int{api.KBool, api.KInt, api.KTime, api.KDec} {
		all["Cast "+string(rune('0'+k))] = func(l []api.V) (api.V, api.Errno) { return vec.Cast(k, l[0]) }
	}
	return all
}

// handed draws three values, often of one type.
func handed(draw func(int) int) []api.V {
	l := make([]api.V, 0, 5)
	k := 1 + draw(5)
	for range 3 {
		v := sequence(draw)
		switch draw(4) {
		case 0:
			v = flat(draw, k, draw(4))
		case 1:
			v = element(flat(draw, k, 1), 0)
		}
		l = append(l, v)
	}
	return l
}

func roomyAll(l []api.V) []api.V { return roomy(list(l...)).L }

// TestApart: rule 3: what is answered shares nothing with what was handed in, nor with another answer, and nothing there is changed.
func TestApart(t *testing.T) {
	draw := draws(91)
	for range 1500 {
		l := handed(draw)
		for name, call := range calls() {
			mine := roomyAll(l)
			got, e := call(mine)
			again, _ := call(mine)
			want := value.Clone(got)
			untouched(t, name, mine, l)
			scribble(got)
			untouched(t, name+", whose answer is shared,", mine, l)
			is(t, name+": twice", value.Match(again, want), true)
			scribble(api.V{L: mine})
			is(t, name+": apart", value.Match(again, want), true)
			if e == api.OK {
				is(t, name+": a value", value.Check(again), api.OK)
			}
		}
	}
}

// TestPartsApart: rule 7: no two lists of one answer share anything.
func TestPartsApart(t *testing.T) {
	l := list(ints(1, 2), symbols("a"))
	for name, call := range map[string]func() (api.V, api.Errno){
		"Take":          func() (api.V, api.Errno) { return vec.Take(4, l) },
		"Index":         func() (api.V, api.Errno) { return vec.Index(l, 0, 1, 0, 1) },
		"Index nothing": func() (api.V, api.Errno) { return vec.Index(l, 7, 1, 7, 1) },
		"Join":          func() (api.V, api.Errno) { return vec.Join(l, l) },
	} {
		v, e := call()
		is(t, name, e, api.OK)
		want := value.Clone(v.L[2])
		scribble(v.L[0])
		scribble(v.L[1])
		is(t, name, value.Match(v.L[2], want), true)
		is(t, name, value.Match(v.L[3], symbols("a")), true)
	}
}

// TestNilOrEmpty: rule 3: nil and an empty list are the same.
func TestNilOrEmpty(t *testing.T) {
	for k := api.KList; k <= api.KDec; k++ {
		bare, full := api.V{T: k}, api.V{T: k, N: []int64{}, S: []string{}, L: []api.V{}}
		for name, call := range calls() {
			a, e := call([]api.V{bare, bare, bare})
			b, f := call([]api.V{full, full, full})
			is(t, name, e, f)
			is(t, name, value.Match(a, b), true)
		}
	}
	v, e := vec.Join([]api.V{}...)
	wants(t, v, e, list(), api.OK, "Join")
	v, e = vec.Index(ints(1), []int64{}...)
	wants(t, v, e, ints(), api.OK, "Index")
}

// junk draws anything at all.
func junk(draw func(int) int, depth int) api.V {
	kinds := []int{0, 1, 2, 3, 4, 5, -1, -2, -3, -4, -5, 6, -6, 98, 99, 100, 101, -98, -101, math.MinInt, math.MaxInt, 0, 1, 2, 3, 4, 5, -1, -2, -3, -4, -5}
	v := api.V{T: kinds[draw(len(kinds))]}
	for range draw(3) {
		v.N = append(v.N, []int64{0, 1, -1, 2, null, greatest}[draw(6)])
	}
	for range draw(3) {
		v.S = append(v.S, []string{"", "a", "{}", "a\x00"}[draw(4)])
	}
	for range draw(4) * min(depth, 1) {
		v.L = append(v.L, junk(draw, depth-1))
	}
	return v
}

// TestTotal: rule 1: no call panics, whatever is handed in, and beside an error is nothing.
func TestTotal(t *testing.T) {
	draw := draws(92)
	for range 15000 {
		l := []api.V{junk(draw, draw(3)), junk(draw, draw(3)), junk(draw, draw(3))}
		mine := roomyAll(l)
		for name, call := range calls() {
			v, e := call(mine)
			if e != api.OK && !value.Match(v, api.V{}) {
				t.Fatalf("%s of %s: %s beside error %d", name, told(l...), told(v), e)
			}
			untouched(t, name, mine, l)
		}
		n := int64(draw(1<<31))<<33 | int64(draw(1<<31))
		for _, n := range []int64{n >> draw(64), null, greatest} {
			vec.Index(l[0], n, -n)
			vec.Drop(n, l[0])
			vec.Take(n, l[0])
			vec.Til(n)
			vec.Cast(int(n), l[0])
			vec.Do(int(n), l[0], l[1])
		}
	}
}
