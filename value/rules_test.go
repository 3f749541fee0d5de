package value_test

import (
	"math"
	"slices"
	"testing"

	"quiver/api"
	"quiver/value"
)

// roomy is v in memory of its own, with spare room behind each list.
func roomy(v api.V) api.V {
	w := api.V{T: v.T, N: append(make([]int64, 0, len(v.N)+3), v.N...), S: append(make([]string, 0, len(v.S)+3), v.S...), L: make([]api.V, 0, len(v.L)+3)}
	for _, x := range v.L {
		w.L = append(w.L, roomy(x))
	}
	return w
}

// scribble writes over all that v has, spare room too.
func scribble(v api.V) {
	for i := range v.N[:cap(v.N)] {
		v.N[:cap(v.N)][i] = -77
	}
	for i := range v.S[:cap(v.S)] {
		v.S[:cap(v.S)][i] = "scribbled"
	}
	for i, x := range v.L[:cap(v.L)] {
		scribble(x)
		v.L[:cap(v.L)][i] = api.V{T: 77}
	}
}

// untouched asks whether all of v, which roomy made of was, is as it was, spare room too.
func untouched(t *testing.T, what string, v, was api.V) {
	t.Helper()
	wantV(t, what, v, was)
	for _, n := range v.N[len(v.N):cap(v.N)] {
		is(t, what+": spare room", n, 0)
	}
	for _, s := range v.S[len(v.S):cap(v.S)] {
		is(t, what+": spare room", s, "")
	}
	for _, x := range v.L[len(v.L):cap(v.L)] {
		wantV(t, what+": spare room", x, api.V{})
	}
	for i := range v.L {
		untouched(t, what, v.L[i], was.L[i])
	}
}

// calls are all that answers a value made of one that is handed in.
func calls() map[string]func(api.V) api.V {
	return map[string]func(api.V) api.V{
		"Clone":     value.Clone,
		"Of":        func(v api.V) api.V { return value.Of(v) },
		"Of twice":  func(v api.V) api.V { return value.Of(v, v) },
		"Of parts":  func(v api.V) api.V { return value.Of(v.L...) },
		"At":        func(v api.V) api.V { x, _ := value.At(v, 0); return x },
		"At the 2.": func(v api.V) api.V { x, _ := value.At(v, 1); return x },
		"Int":       func(v api.V) api.V { return value.Int(v.N...) },
		"Time":      func(v api.V) api.V { return value.Time(v.N...) },
		"Dec":       func(v api.V) api.V { return value.Dec(v.N...) },
		"Sym":       func(v api.V) api.V { return value.Sym(v.S...) },
		"Each": func(v api.V) api.V {
			var l []api.V
			for _, x := range value.Each(v) {
				l = append(l, x)
			}
			return api.V{L: l}
		},
	}
}

// TestApart: rule 3: what is answered shares nothing with what was handed in, and nothing there is changed.
func TestApart(t *testing.T) {
	for name, call := range calls() {
		for _, v := range samples() {
			mine := roomy(v)
			got, want := call(mine), call(v)
			untouched(t, name, mine, v)
			wantV(t, name, got, want)
			scribble(got)
			untouched(t, name+": "+told(v), mine, v)
			got = call(mine)
			wantV(t, name+", again", got, want)
			scribble(mine)
			wantV(t, name+": "+told(v), got, want)
		}
	}
}

// TestNew: rule 3: what is answered is new each time.
func TestNew(t *testing.T) {
	for range 2 {
		for _, k := range []int{api.KBool, api.KInt, api.KTime, api.KDec, api.KSym} {
			null, empty := value.Null(k), value.Empty(k)
			is(t, "Null", value.Compare(null, value.Null(-k)), 0)
			is(t, "Empty", value.Count(empty), 0)
			scribble(null)
			scribble(empty)
		}
		x := value.Symbol("a")
		wantV(t, "Symbol", x, symbol("a"))
		scribble(x)
	}
	l := value.Of(symbol("a"), symbol("b"))
	a, _ := value.At(l, 0)
	b, _ := value.At(l, 0)
	scribble(a)
	wantV(t, "At", b, symbol("a"))
}

// column draws a vector or a list of so many elements, at most so deep.
func column(draw func(int) int, count, depth int) api.V {
	t := draw(6)
	if depth < 2 {
		t = 1 + draw(5)
	}
	v := api.V{T: t}
	for i := range count {
		switch t {
		case api.KList:
			v.L = append(v.L, anyValue(draw, depth-1))
			if i == 0 && value.IsAtom(v.L[0]) {
				v.L[0] = list()
			}
		case api.KSym:
			v.S = append(v.S, []string{"", "a", "b", "ab", "\xff\x01"}[draw(5)])
		case api.KBool:
			v.N = append(v.N, int64(draw(2)))
		default:
			v.N = append(v.N, []int64{api.Null, -1, 0, 1, math.MaxInt64}[draw(5)])
		}
	}
	return v
}

func anyTable(draw func(int) int, count, depth int) api.V {
	v := api.V{T: api.KTable}
	for range 1 + draw(3) {
		if name := []string{"a", "b", "ab", "c"}[draw(4)]; !slices.Contains(v.S, name) {
			v.S = append(v.S, name)
			v.L = append(v.L, column(draw, count, depth-1))
		}
	}
	return v
}

// anyValue draws a value that is not nothing, at most so deep.
func anyValue(draw func(int) int, depth int) api.V {
	count := draw(4)
	kind := draw(9)
	switch {
	case kind < 2:
		return column(draw, count, depth)
	case kind < 4 || depth < 3:
		v, _ := value.At(column(draw, 1, 1), 0)
		return v
	case kind < 5:
		return lambda([]string{"{}", "{x}", "{x+y}"}[draw(3)])
	case kind < 7:
		return anyTable(draw, count, depth)
	case kind < 8:
		return dict(column(draw, count, depth-1), column(draw, count, depth-1))
	}
	return dict(anyTable(draw, count, depth-1), anyTable(draw, count, depth-1))
}

func drawn(seed uint64, many int) []api.V {
	draw := draws(seed)
	l := []api.V{nothing()}
	for range many {
		l = append(l, anyValue(draw, 1+draw(6)))
	}
	return l
}

// TestOrder: P3.10.
func TestOrder(t *testing.T) {
	l := append(drawn(10, 60), samples()...)
	for _, a := range l {
		is(t, "itself", value.Compare(a, roomy(a)), 0)
		for _, b := range l {
			ab := value.Compare(a, b)
			is(t, "turned round", value.Compare(b, a), -ab)
			wantOrder(t, a, b)
			for _, c := range l {
				if ab <= 0 && value.Compare(b, c) <= 0 && value.Compare(a, c) > 0 {
					t.Fatalf("it goes not on: %s, %s, %s", told(a), told(b), told(c))
				}
			}
		}
	}
	l = drawn(11, 500)
	slices.SortFunc(l, value.Compare)
	for i, a := range l {
		for _, b := range l[i:] {
			is(t, "sorted", value.Compare(a, b) <= 0, true)
		}
	}
}

// elements is what stands at the places of v, by At.
func elements(t *testing.T, v api.V) []api.V {
	t.Helper()
	var l []api.V
	for i := range value.Count(v) {
		x, e := value.At(v, i)
		is(t, "At "+told(v), e, api.OK)
		l = append(l, x)
	}
	return l
}

// TestMadeRight: P3.11.
func TestMadeRight(t *testing.T) {
	l := append(drawn(12, 4000), samples()...)
	draw := draws(13)
	for i, v := range l {
		is(t, "a value "+told(v), value.Check(v), api.OK)
		all := elements(t, v)
		for _, x := range all {
			is(t, "At of "+told(v), value.Check(x), api.OK)
		}
		if v.T >= 0 && v.T <= api.KDec && (len(all) > 0 || v.T == api.KList) {
			wantV(t, "Of of all elements", value.Of(all...), v)
		}
		if i > 0 && value.Depth(v) < api.MaxDepth-8 {
			parts := l[1:][max(0, i-1-draw(4)):i]
			is(t, "Of", value.Check(value.Of(slices.DeleteFunc(slices.Clone(parts), noPart)...)), api.OK)
		}
	}
}

// noPart asks whether v may be in no list.
func noPart(v api.V) bool { return v.T == api.KNil || value.Depth(v) >= api.MaxDepth }

// TestDeepRow: P3.11: a row is deeper than a table of vectors, but never deeper than a value may be.
func TestDeepRow(t *testing.T) {
	deep := table("a b", list(nest(list(), api.MaxDepth-3)), ints(1))
	keyed := dict(table("a b", list(nest(list(), api.MaxDepth-4)), ints(1)), table("c", ints(1)))
	for _, v := range []api.V{deep, keyed} {
		is(t, "a value", value.Check(v), api.OK)
		is(t, "as deep as may be", value.Depth(v), api.MaxDepth)
		for _, x := range elements(t, v) {
			is(t, "its row", value.Check(x), api.OK)
		}
	}
}

// junk draws anything at all.
func junk(draw func(int) int, depth int) api.V {
	kinds := []int{0, 1, 2, 3, 4, 5, -1, -2, -3, -4, -5, 6, -6, 98, 99, 100, 101, -98, -101, math.MinInt, math.MaxInt, 0, 98, 99, 98, 99}
	v := api.V{T: kinds[draw(len(kinds))]}
	for range draw(3) {
		v.N = append(v.N, int64(draw(3)))
	}
	for range draw(3) {
		v.S = append(v.S, []string{"", "a", "{", "{}", "a\x00", long()}[draw(6)])
	}
	for range draw(4) * min(depth, 1) {
		v.L = append(v.L, junk(draw, depth-1))
	}
	return v
}

// TestTotal: rule 1: no call panics, at whatever is no value.
func TestTotal(t *testing.T) {
	draw := draws(14)
	before := api.V{}
	for range 20000 {
		v := junk(draw, draw(5))
		mine := roomy(v)
		for _, i := range []int{math.MinInt, -1, 0, 1, 2, 3, math.MaxInt} {
			if x, e := value.At(mine, i); e != api.OK {
				wantV(t, "beside an error", x, api.V{})
			}
			value.IsNull(mine, i)
		}
		for range value.Each(mine) {
			value.Count(mine)
		}
		value.Check(mine)
		value.Type(mine)
		value.IsAtom(mine)
		value.Numeric(mine)
		value.Match(mine, before)
		value.Compare(mine, before)
		value.Depth(mine)
		value.Size(mine)
		value.Clone(mine)
		value.Of(mine, before)
		value.Of(mine)
		untouched(t, "handed in", mine, v)
		before = v
	}
}
