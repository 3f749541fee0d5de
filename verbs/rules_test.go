package verbs_test

import (
	"math"
	"strings"
	"testing"

	"quiver/api"
	"quiver/value"
	"quiver/verbs"
)

// roomy is v in memory of its own, with spare room behind each list.
func roomy(v api.V) api.V {
	w := api.V{T: v.T, N: append(make([]int64, 0, len(v.N)+3), v.N...), S: append(make([]string, 0, len(v.S)+3), v.S...), L: make([]api.V, 0, len(v.L)+3)}
	for _, x := range v.L {
		w.L = append(w.L, roomy(x))
	}
	return w
}

func roomyAll(l []api.V) []api.V { return roomy(list(l...)).L }

// scribble writes over all that v has, spare room too.
func scribble(v api.V) {
	for i := range v.N[:cap(v.N)] {
		v.N[:cap(v.N)][i] = -77
	}
	for i := range v.S[:cap(v.S)] {
		v.S[:cap(v.S)][i] = "scribbled"
	}
	for i, x := range v.L[:cap(v.L)] {
		scribble(x)
		v.L[:cap(v.L)][i] = api.V{T: 77}
	}
}

// asItWas tells whether all of v, which roomy made of was, is as it was, spare room too.
func asItWas(v, was api.V) bool {
	if !value.Match(v, was) {
		return false
	}
	for _, n := range v.N[len(v.N):cap(v.N)] {
		if n != 0 {
			return false
		}
	}
	for _, s := range v.S[len(v.S):cap(v.S)] {
		if s != "" {
			return false
		}
	}
	for i, x := range v.L[:cap(v.L)] {
		if i < len(v.L) && !asItWas(x, was.L[i]) || i >= len(v.L) && !value.Match(x, api.V{}) {
			return false
		}
	}
	return true
}

func untouched(t *testing.T, what string, mine, l []api.V) {
	t.Helper()
	if !asItWas(api.V{L: mine}, api.V{L: l}) {
		t.Fatalf("%s changed %s to %s", what, told(l...), told(mine...))
	}
}

// calls are all calls, of three values: what they need not they leave alone.
func calls() map[string]func(l []api.V) (api.V, api.Errno) {
	all := map[string]func(l []api.V) (api.V, api.Errno){
		"Index":      func(l []api.V) (api.V, api.Errno) { return verbs.Index(l[0], l[1:]...) },
		"Index one":  func(l []api.V) (api.V, api.Errno) { return verbs.Index(l[0], l[1]) },
		"Index none": func(l []api.V) (api.V, api.Errno) { return verbs.Index(l[0]) },
		"Index nil":  func(l []api.V) (api.V, api.Errno) { return verbs.Index(l[0], nothing()) },
	}
	for _, name := range append(strings.Split(api.Verbs, ""), strings.Fields(monadWords)...) {
		all["Monad "+name] = func(l []api.V) (api.V, api.Errno) { return verbs.Monad(name, l[0]) }
	}
	for _, name := range append(strings.Split(api.Verbs, ""), strings.Fields(dyadWords)...) {
		all["Dyad "+name] = func(l []api.V) (api.V, api.Errno) { return verbs.Dyad(name, l[0], l[1]) }
		all["Dyad the other way "+name] = func(l []api.V) (api.V, api.Errno) { return verbs.Dyad(name, l[1], l[0]) }
		all["Dyad of itself "+name] = func(l []api.V) (api.V, api.Errno) { return verbs.Dyad(name, l[0], l[0]) }
	}
	return all
}

// handed draws three values that many calls can do something with.
func handed(draw func(int) int) []api.V {
	x := drawn(draw, 2+draw(5))
	if draw(15) == 0 {
		return []api.V{symbol([]string{"a", "b", "i", "d"}[draw(4)]), columnsOf(draw, 4, draw(4), "a", "b"), keysOf(draw, x)}
	}
	l := make([]api.V, 0, 5)
	l = append(l, x)
	for range 2 {
		switch draw(4) {
		case 0:
			l = append(l, keysOf(draw, x))
		case 1:
			l = append(l, []api.V{symbol("a"), symbol("i"), symbols("a"), symbol("k"), one(1), one(0), ints(0), ints(0, 1), sequence(draw, api.KInt, 2)}[draw(9)])
		case 2:
			l = append(l, x)
		default:
			l = append(l, drawn(draw, 2+draw(4)))
		}
	}
	return l
}

// TestApart: rule 3: what is answered shares nothing with what was handed in, nor with another answer, and nothing there is changed; and it is a value, or an error with nothing beside it.
func TestApart(t *testing.T) {
	draw := draws(171)
	right := map[string]int{}
	for range 3000 {
		l := handed(draw)
		for name, call := range calls() {
			mine := roomyAll(l)
			got, e := call(mine)
			again, _ := call(mine)
			want := value.Clone(got)
			untouched(t, name, mine, l)
			is(t, name+": a value", value.Check(got), api.OK)
			if e == api.OK {
				right[name]++
			} else if !value.Match(got, api.V{}) {
				t.Fatalf("%s of %s: %s beside error %d", name, told(l...), told(got), e)
			}
			scribble(got)
			untouched(t, name+", whose answer is shared,", mine, l)
			is(t, name+": twice", value.Match(again, want), true)
			scribble(api.V{L: mine})
			is(t, name+": apart", value.Match(again, want), true)
		}
	}
	for name := range calls() {
		if !strings.Contains(name, "itself") {
			is(t, name+" has answers", right[name] > 10, true)
		}
	}
}

// lists are all slices of a value, so that each can be written over alone.
func lists(v *api.V) []*api.V {
	l := []*api.V{v}
	for i := range v.L {
		l = append(l, lists(&v.L[i])...)
	}
	return l
}

// TestPartsApart: rule 7 of the language: no two lists of one answer share anything.
func TestPartsApart(t *testing.T) {
	draw := draws(172)
	for range 1500 {
		l := handed(draw)
		for name, call := range calls() {
			got, _ := call(l)
			want := value.Clone(got)
			parts, wanted := lists(&got), lists(&want)
			for i, part := range parts {
				for j := range part.N[:cap(part.N)] {
					part.N[:cap(part.N)][j] = int64(-1000 - i)
				}
				for j := range part.S[:cap(part.S)] {
					part.S[:cap(part.S)][j] = string(rune('A' + i%26))
				}
				for j := range wanted[i].N {
					wanted[i].N[j] = int64(-1000 - i)
				}
				for j := range wanted[i].S {
					wanted[i].S[j] = string(rune('A' + i%26))
				}
			}
			is(t, name+": its parts apart", value.Match(got, want), true)
		}
	}
}

// TestNilOrEmpty: rule 3: nil and an empty list are the same.
func TestNilOrEmpty(t *testing.T) {
	draw := draws(173)
	for range 1500 {
		l := handed(draw)
		for _, v := range l {
			for _, part := range lists(&v) {
				if len(part.L) == 0 {
					part.L = nil
				}
			}
		}
		full := roomyAll(l)
		for name, call := range calls() {
			a, e := call(l)
			b, f := call(full)
			is(t, name, e, f)
			is(t, name, value.Match(a, b), true)
		}
	}
}

// junk draws anything at all, often of a shape that is nearly a value's.
func junk(draw func(int) int, depth int) api.V {
	kinds := []int{0, 1, 2, 3, 4, 5, -1, -2, -3, -4, -5, 6, -6, 98, 98, 99, 100, 101, -98, -99, math.MinInt, math.MaxInt, 0, 0, 0, 2, 3, 98, 98, 99, 99, 99, -2, -2, -3}
	v := api.V{T: kinds[draw(len(kinds))]}
	for range draw(3) {
		v.N = append(v.N, []int64{0, 1, -1, 2, null, math.MaxInt64}[draw(6)])
	}
	for range draw(3) {
		v.S = append(v.S, []string{"", "a", "{}", "a\x00", "b", "i"}[draw(6)])
	}
	parts := draw(4)
	if v.T == api.KDict && draw(4) > 0 {
		parts = 2
	}
	for range parts * min(depth, 1) {
		v.L = append(v.L, junk(draw, depth-1))
	}
	if v.T == api.KTable && draw(3) > 0 {
		v.S = []string{"a", "b", "c", "d"}[:len(v.L)]
	}
	return v
}

// TestTotal: rule 1: no call panics, whatever is handed in, and beside an error is nothing.
func TestTotal(t *testing.T) {
	draw := draws(174)
	for range 4000 {
		l := []api.V{junk(draw, draw(4)), junk(draw, draw(4)), junk(draw, draw(4))}
		switch draw(4) {
		case 0:
			l[0] = pairs(l[0], l[1])
		case 1:
			l[0] = pairs(table([]string{"a"}, l[0]), table([]string{"b"}, l[1]))
		}
		if draw(3) == 0 && len(l[0].L) > 0 && len(l[0].L[0].L) > 0 {
			l[1] = l[0].L[0].L[draw(len(l[0].L[0].L))]
		}
		mine := roomyAll(l)
		for name, call := range calls() {
			v, e := call(mine)
			if e != api.OK && !value.Match(v, api.V{}) {
				t.Fatalf("%s of %s: %s beside error %d", name, told(l...), told(v), e)
			}
			untouched(t, name, mine, l)
		}
	}
}

// TestDeepJunk: rule 1: as many parts in one another as there may be are no value, and no harm.
func TestDeepJunk(t *testing.T) {
	v := around(ints(1), 1<<16)
	for name, call := range calls() {
		got, e := call([]api.V{v, one(1), ints(0)})
		if e != api.OK && !value.Match(got, api.V{}) {
			t.Fatalf("%s: a value beside error %d", name, e)
		}
	}
}
