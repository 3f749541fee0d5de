package keyed_test

import (
	"math"
	"testing"

	"quiver/api"
	"quiver/keyed"
	"quiver/value"
)

// handed is what a call may take: what it needs not it leaves alone.
type handed struct {
	k, x  api.V
	l     []api.V
	names []string
}

// roomy is v in memory of its own, with spare room behind each list.
func roomy(v api.V) api.V {
	w := api.V{T: v.T, N: append(make([]int64, 0, len(v.N)+3), v.N...), S: append(make([]string, 0, len(v.S)+3), v.S...), L: make([]api.V, 0, len(v.L)+3)}
	for _, x := range v.L {
		w.L = append(w.L, roomy(x))
	}
	return w
}

// whole is all that is handed in.
func (h handed) whole() api.V { return api.V{L: []api.V{h.k, h.x, {L: h.l, S: h.names}}} }

func (h handed) roomy() handed {
	w := roomy(h.whole())
	return handed{w.L[0], w.L[1], w.L[2].L, w.L[2].S}
}

// scribble writes over all that v has, spare room too.
func scribble(v api.V) {
	for i := range v.N[:cap(v.N)] {
		v.N[:cap(v.N)][i] = -77
	}
	for i := range v.S[:cap(v.S)] {
		v.S[:cap(v.S)][i] = "scribbled"
	}
	for i, x := range v.L[:cap(v.L)] {
		scribble(x)
		v.L[:cap(v.L)][i] = api.V{T: 77}
	}
}

// asItWas tells whether all of v, which roomy made of was, is as it was, spare room too.
func asItWas(v, was api.V) bool {
	if !value.Match(v, was) {
		return false
	}
	for _, n := range v.N[len(v.N):cap(v.N)] {
		if n != 0 {
			return false
		}
	}
	for _, s := range v.S[len(v.S):cap(v.S)] {
		if s != "" {
			return false
		}
	}
	for i, x := range v.L[:cap(v.L)] {
		if i < len(v.L) && !asItWas(x, was.L[i]) || i >= len(v.L) && !value.Match(x, api.V{}) {
			return false
		}
	}
	return true
}

func untouched(t *testing.T, what string, mine, h handed) {
	t.Helper()
	if !asItWas(mine.whole(), h.whole()) {
		t.Fatalf("%s changed %s to %s", what, told(h.whole()), told(mine.whole()))
	}
}

// namesCall is Names with its answer as a value, in the memory that is answered.
func namesCall(k api.V) (api.V, api.Errno) {
	a, b, e := keyed.Names(k)
	if len(a) == 0 && len(b) == 0 {
		return api.V{}, e
	}
	return api.V{T: api.KList, L: []api.V{{T: api.KSym, S: a}, {T: api.KSym, S: b}}}, e
}

// uniqueCall is Unique with its answer as a value; false is the zero one.
func uniqueCall(k api.V) (api.V, api.Errno) {
	yes, e := keyed.Unique(k)
	if !yes {
		return api.V{}, e
	}
	return truth(1), e
}

// findCall is Find with its answer as a value; 0 is the zero one.
func findCall(k api.V, x ...api.V) (api.V, api.Errno) {
	n, e := keyed.Find(k, x...)
	if n == 0 {
		return api.V{}, e
	}
	return one(int64(n)), e
}

// placesCall is Places with its answer as a value; none is the zero one.
func placesCall(k, t api.V) (api.V, api.Errno) {
	l, e := keyed.Places(k, t)
	if len(l) == 0 {
		return api.V{}, e
	}
	v := ints()
	for i, n := range l[:cap(l)] {
		if i < len(l) {
			v.N = append(v.N, int64(n))
		}
		l[:cap(l)][i] = -77
	}
	return v, e
}

func calls() map[string]func(h handed) (api.V, api.Errno) {
	return map[string]func(h handed) (api.V, api.Errno){
		"Key":           func(h handed) (api.V, api.Errno) { return keyed.Key(h.k, h.names...) },
		"Unkey":         func(h handed) (api.V, api.Errno) { return keyed.Unkey(h.k) },
		"Names":         func(h handed) (api.V, api.Errno) { return namesCall(h.k) },
		"Unique":        func(h handed) (api.V, api.Errno) { return uniqueCall(h.k) },
		"Find":          func(h handed) (api.V, api.Errno) { return findCall(h.k, h.l...) },
		"Places":        func(h handed) (api.V, api.Errno) { return placesCall(h.k, h.x) },
		"Get":           func(h handed) (api.V, api.Errno) { return keyed.Get(h.k, h.l...) },
		"Insert":        func(h handed) (api.V, api.Errno) { return keyed.Insert(h.k, h.x) },
		"Upsert":        func(h handed) (api.V, api.Errno) { return keyed.Upsert(h.k, h.x) },
		"Upsert itself": func(h handed) (api.V, api.Errno) { return keyed.Upsert(h.k, h.k) },
		"Delete":        func(h handed) (api.V, api.Errno) { return keyed.Delete(h.k, h.l...) },
		"Join":          func(h handed) (api.V, api.Errno) { return keyed.Join(h.k, h.x) },
		"Join none":     func(h handed) (api.V, api.Errno) { return keyed.Join(h.k) },
		"Join all":      func(h handed) (api.V, api.Errno) { return keyed.Join(h.k, h.l...) },
	}
}

// someHanded draws what most calls can do something with.
func someHanded(draw func(int) int) handed {
	h := handed{k: drawn(draw)}
	h.x = someRows(draw, h.k)
	h.l = someKey(draw, h.k)
	if draw(3) == 0 {
		h.l = []api.V{someRows(draw, h.k), someRows(draw, h.k)}
	}
	h.names = mixed(draw, flat(h.k).S...)[:1+draw(2)]
	if draw(3) == 0 {
		h.k = flat(h.k) // for Key
	}
	return h
}

// TestApart: rule 3: nothing that was handed in is changed, and what is answered shares nothing with it, nor with another answer. Each keyed table is a value.
func TestApart(t *testing.T) {
	draw := draws(128)
	for range 4000 {
		h := someHanded(draw)
		for name, call := range calls() {
			mine := h.roomy()
			got, e := call(mine)
			again, _ := call(mine)
			want := value.Clone(got)
			untouched(t, name, mine, h)
			scribble(got)
			untouched(t, name+", whose answer is shared,", mine, h)
			is(t, name+": twice", value.Match(again, want), true)
			scribble(mine.whole())
			is(t, name+": apart", value.Match(again, want), true)
			if e == api.OK {
				is(t, name+": a value", value.Check(again), api.OK)
			}
		}
	}
}

// scribbledParts writes over the lists of v one after the other, and tells whether no other one was touched by that.
func scribbledParts(v api.V) bool {
	was := value.Clone(v)
	for i, x := range v.L {
		if !value.Match(x, was.L[i]) || !scribbledParts(x) {
			return false
		}
	}
	if !value.Match(api.V{S: v.S, N: v.N}, api.V{S: was.S, N: was.N}) {
		return false
	}
	scribble(v)
	return true
}

// TestPartsApart: rule 7 of the language: no two lists of one answer share anything, spare room neither.
func TestPartsApart(t *testing.T) {
	draw := draws(129)
	for range 4000 {
		h := someHanded(draw)
		for name, call := range calls() {
			got, _ := call(h)
			is(t, name+": "+told(got), scribbledParts(got), true)
		}
	}
	l := list(ints(1, 2), ints(1, 2))
	k := pairs(columns("a", ints(1, 2)), columns("b c", l, l))
	for name, call := range map[string]func() (api.V, api.Errno){
		"Key":       func() (api.V, api.Errno) { return keyed.Key(flat(k), "a") },
		"Unkey":     func() (api.V, api.Errno) { return keyed.Unkey(k) },
		"Get":       func() (api.V, api.Errno) { return keyed.Get(k, one(1)) },
		"Get none":  func() (api.V, api.Errno) { return keyed.Get(k, one(7)) },
		"Insert":    func() (api.V, api.Errno) { return keyed.Insert(k, columns("a b c", ints(3, 4), l, l)) },
		"Upsert":    func() (api.V, api.Errno) { return keyed.Upsert(k, columns("a b c", ints(2, 2), l, l)) },
		"Delete":    func() (api.V, api.Errno) { return keyed.Delete(k, one(1)) },
		"Join":      func() (api.V, api.Errno) { return keyed.Join(k, columns("a b c", ints(1, 2), l, l)) },
		"Join none": func() (api.V, api.Errno) { return keyed.Join(k) },
	} {
		got, e := call()
		is(t, name, e, api.OK)
		is(t, name, scribbledParts(got), true)
	}
}

// TestNilOrEmpty: rule 3: nil and an empty list are the same.
func TestNilOrEmpty(t *testing.T) {
	for k := api.KList; k <= api.KDec; k++ {
		bare, full := api.V{T: k}, api.V{T: k, N: []int64{}, S: []string{}, L: []api.V{}}
		one, other := pairs(columns("a", bare), columns("b", bare)), pairs(columns("a", full), columns("b", full))
		other.N, other.S = []int64{}, []string{}
		other.L[0].N = []int64{}
		for name, call := range calls() {
			for _, h := range [][2]handed{
				{{k: one, x: flat(one), l: []api.V{bare}}, {k: other, x: flat(other), l: []api.V{full}}},
				{{k: one, x: one}, {k: other, x: other, l: []api.V{}, names: []string{}}},
				{{k: flat(one), x: one, names: []string{"a"}}, {k: flat(other), x: other, l: []api.V{}, names: []string{"a"}}},
			} {
				a, e := call(h[0])
				b, f := call(h[1])
				is(t, name, e, f)
				is(t, name, value.Match(a, b), true)
			}
		}
	}
}

// junk draws anything at all, often of a kind that calls look into.
func junk(draw func(int) int, depth int) api.V {
	kinds := []int{0, 1, 2, 3, 4, 5, -1, -2, -3, -4, -5, 6, -6, 98, 99, 100, 101, -98, -99, math.MinInt, math.MaxInt, 0, 0, 0, 2, 3, 98, 99, -2, -2, -3, -3}
	v := api.V{T: kinds[draw(len(kinds))]}
	for range draw(3) {
		v.N = append(v.N, []int64{0, 1, -1, 2, null, math.MaxInt64}[draw(6)])
	}
	for range draw(3) {
		v.S = append(v.S, []string{"a", "b", "", "{}", "a\x00"}[draw(5)])
	}
	parts := draw(4)
	if v.T == api.KDict && draw(4) > 0 {
		parts = 2
	}
	if v.T == api.KTable && draw(4) > 0 {
		parts = len(v.S)
	}
	for range parts * min(depth, 1) {
		v.L = append(v.L, junk(draw, depth-1))
	}
	return v
}

// junkTable draws what looks like a table, of columns that have all that they need not, now and then of unlike counts.
func junkTable(draw func(int) int, names string, count int) api.V {
	t := columns(names)
	for range t.S {
		column := api.V{T: draw(api.KDec + 1)}
		if draw(12) == 0 {
			count = draw(4)
		}
		for range count {
			column.N = append(column.N, int64(draw(3)))
			column.S = append(column.S, []string{"a", "", "a\x00"}[draw(3)])
			column.L = append(column.L, junk(draw, draw(3)))
		}
		t.L = append(t.L, column)
	}
	return t
}

// junkKeyed draws what looks like a keyed table, whose tables now and then have unlike counts, or the same names.
func junkKeyed(draw func(int) int) api.V {
	count := draw(4)
	k := pairs(junkTable(draw, []string{"a", "a b", "b"}[draw(3)], count), junkTable(draw, []string{"c", "c d", "b"}[draw(3)], count))
	if draw(8) == 0 {
		k.L = append(k.L, junk(draw, 2))[draw(2):]
	}
	return k
}

// TestTotal: rule 1: no call panics, whatever is handed in, and beside an error is nothing.
func TestTotal(t *testing.T) {
	draw := draws(130)
	for range 20000 {
		h := handed{k: junk(draw, draw(4)), x: junk(draw, draw(4))}
		switch draw(5) {
		case 0:
			h.k = junkKeyed(draw)
		case 1, 2:
			h.k, h.x = junkKeyed(draw), junkKeyed(draw)
		case 3:
			h.k, h.x = drawn(draw), junkTable(draw, "a b c", draw(4))
		}
		if draw(4) == 0 && len(h.k.L) == 2 {
			h.k = flat(h.k) // for Key
		}
		h.names = [][]string{{"a"}, {"b", "a"}, {"", "a"}, {"a", "a\x00", "a"}, {"c"}, nil}[draw(6)]
		for range draw(4) {
			h.l = append(h.l, junk(draw, draw(3)))
		}
		mine := h.roomy()
		for name, call := range calls() {
			v, e := call(mine)
			if e != api.OK && !value.Match(v, api.V{}) {
				t.Fatalf("%s of %s: %s beside error %d", name, told(h.whole()), told(v), e)
			}
			untouched(t, name, mine, h)
		}
	}
}
