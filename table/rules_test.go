package table_test

import (
	"math"
	"slices"
	"testing"

	"quiver/api"
	"quiver/table"
	"quiver/value"
)

// handed is what a call may take: what it needs not it leaves alone. There are two names at least.
type handed struct {
	v, x   api.V
	names  []string
	places []int
}

// roomy is v in memory of its own, with spare room behind each list.
func roomy(v api.V) api.V {
	w := api.V{T: v.T, N: append(make([]int64, 0, len(v.N)+3), v.N...), S: append(make([]string, 0, len(v.S)+3), v.S...), L: make([]api.V, 0, len(v.L)+3)}
	for _, x := range v.L {
		w.L = append(w.L, roomy(x))
	}
	return w
}

func (h handed) roomy() handed {
	return handed{roomy(h.v), roomy(h.x), append(make([]string, 0, len(h.names)+3), h.names...), append(make([]int, 0, len(h.places)+3), h.places...)}
}

// scribble writes over all that v has, spare room too.
func scribble(v api.V) {
	for i := range v.N[:cap(v.N)] {
		v.N[:cap(v.N)][i] = -77
	}
	for i := range v.S[:cap(v.S)] {
		v.S[:cap(v.S)][i] = "scribbled"
	}
	for i, x := range v.L[:cap(v.L)] {
		scribble(x)
		v.L[:cap(v.L)][i] = api.V{T: 77}
	}
}

func (h handed) scribble() {
	scribble(api.V{L: []api.V{h.v, h.x}, S: h.names})
	for i := range h.places[:cap(h.places)] {
		h.places[:cap(h.places)][i] = -77
	}
}

// asItWas tells whether all of v, which roomy made of was, is as it was, spare room too.
func asItWas(v, was api.V) bool {
	if !value.Match(v, was) {
		return false
	}
	for _, n := range v.N[len(v.N):cap(v.N)] {
		if n != 0 {
			return false
		}
	}
	for _, s := range v.S[len(v.S):cap(v.S)] {
		if s != "" {
			return false
		}
	}
	for i, x := range v.L[:cap(v.L)] {
		if i < len(v.L) && !asItWas(x, was.L[i]) || i >= len(v.L) && !value.Match(x, api.V{}) {
			return false
		}
	}
	return true
}

func untouched(t *testing.T, what string, mine, h handed) {
	t.Helper()
	if !asItWas(mine.v, h.v) || !asItWas(mine.x, h.x) || !asItWas(api.V{S: mine.names}, api.V{S: h.names}) || !slices.Equal(mine.places, h.places) {
		t.Fatalf("%s changed %s to %s", what, told(h.v, h.x), told(mine.v, mine.x))
	}
	for _, n := range mine.places[len(mine.places):cap(mine.places)] {
		is(t, what+" changed spare room", n, 0)
	}
}

// fieldsOf are the types of columns, with names.
func fieldsOf(v api.V, names []string) []api.Field {
	var l []api.Field
	for i := range min(len(names), len(v.L)) {
		l = append(l, api.Field{Name: names[i], Type: v.L[i].T})
	}
	return l
}

// schemaCall is Schema with its answer as a value, in the memory that is answered where that goes.
func schemaCall(v api.V) (api.V, api.Errno) {
	l, e := table.Schema(v)
	var w api.V
	for _, field := range l {
		w.S, w.N = append(w.S, field.Name), append(w.N, int64(field.Type))
	}
	for i := range l {
		l[i] = api.Field{Name: "scribbled", Type: -77}
	}
	return w, e
}

// orderCall is Order with its answer as a value.
func orderCall(v api.V, names []string) (api.V, api.Errno) {
	l, e := table.Order(v, names...)
	w := api.V{N: wide64(l)}
	for i := range l {
		l[i] = -77
	}
	return w, e
}

func calls() map[string]func(h handed) (api.V, api.Errno) {
	return map[string]func(h handed) (api.V, api.Errno){
		"Make":          func(h handed) (api.V, api.Errno) { return table.Make(h.names, h.v.L...) },
		"Empty":         func(h handed) (api.V, api.Errno) { return table.Empty(fieldsOf(h.v, h.names)...) },
		"Schema":        func(h handed) (api.V, api.Errno) { return schemaCall(h.v) },
		"Column":        func(h handed) (api.V, api.Errno) { return table.Column(h.v, h.names[0]) },
		"Select":        func(h handed) (api.V, api.Errno) { return table.Select(h.v, h.names...) },
		"Drop":          func(h handed) (api.V, api.Errno) { return table.Drop(h.v, h.names...) },
		"Drop one":      func(h handed) (api.V, api.Errno) { return table.Drop(h.v, h.names[0]) },
		"Rename":        func(h handed) (api.V, api.Errno) { return table.Rename(h.v, h.names[0], h.names[1]) },
		"Rename to q":   func(h handed) (api.V, api.Errno) { return table.Rename(h.v, h.names[0], "q") },
		"Rows":          func(h handed) (api.V, api.Errno) { return table.Rows(h.v, h.places...) },
		"Delete":        func(h handed) (api.V, api.Errno) { return table.Delete(h.v, h.places...) },
		"Insert":        func(h handed) (api.V, api.Errno) { return table.Insert(h.v, h.x) },
		"Insert itself": func(h handed) (api.V, api.Errno) { return table.Insert(h.v, h.v) },
		"Set":           func(h handed) (api.V, api.Errno) { return table.Set(h.v, h.names[0], h.x) },
		"Set its own": func(h handed) (api.V, api.Errno) {
			if len(h.v.L) == 0 {
				return table.Set(h.v, h.names[0], h.v)
			}
			return table.Set(h.v, h.names[0], h.v.L[0])
		},
		"Update": func(h handed) (api.V, api.Errno) { return table.Update(h.v, h.names[0], h.places, h.x) },
		"Sort":   func(h handed) (api.V, api.Errno) { return table.Sort(h.v, h.names...) },
		"Order":  func(h handed) (api.V, api.Errno) { return orderCall(h.v, h.names) },
	}
}

// someHanded draws what most calls can do something with.
func someHanded(draw func(int) int) handed {
	h := handed{v: drawn(draw)}
	h.names = someNames(draw, h.v, 2+draw(2))
	h.places = somePlaces(draw, h.v, draw(5))
	h.x = someValue(draw, len(h.places))
	if draw(2) == 0 {
		h.x = someRows(draw, h.v)
	}
	return h
}

// TestApart: P11.10 and rule 3: nothing that was handed in is changed, and what is answered shares nothing with it, nor with another answer. Each table is a value.
func TestApart(t *testing.T) {
	draw := draws(118)
	for range 6000 {
		h := someHanded(draw)
		for name, call := range calls() {
			mine := h.roomy()
			got, e := call(mine)
			again, _ := call(mine)
			want := value.Clone(got)
			untouched(t, name, mine, h)
			scribble(got)
			untouched(t, name+", whose answer is shared,", mine, h)
			is(t, name+": twice", value.Match(again, want), true)
			mine.scribble()
			is(t, name+": apart", value.Match(again, want), true)
			if e == api.OK && name != "Schema" && name != "Order" {
				is(t, name+": a value", value.Check(again), api.OK)
			}
		}
	}
}

// TestPartsApart: rule 7 of the language: no two lists of one answer share anything.
func TestPartsApart(t *testing.T) {
	l := list(ints(1, 2), ints(1, 2))
	v := columns("a b", l, l)
	for name, call := range map[string]func() (api.V, api.Errno){
		"Make":   func() (api.V, api.Errno) { return table.Make([]string{"a", "b"}, l, l) },
		"Select": func() (api.V, api.Errno) { return table.Select(v, "b", "a") },
		"Drop":   func() (api.V, api.Errno) { return table.Drop(columns("a b c", l, l, l), "c") },
		"Rename": func() (api.V, api.Errno) { return table.Rename(v, "a", "c") },
		"Rows":   func() (api.V, api.Errno) { return table.Rows(v, 0, 0) },
		"Delete": func() (api.V, api.Errno) { return table.Delete(columns("a b", list(l.L[0], l.L[0], list()), l2(l)), 2) },
		"Insert": func() (api.V, api.Errno) {
			first := list(l.L[0])
			return table.Insert(columns("a b", first, first), columns("b a", first, first))
		},
		"Insert into none": func() (api.V, api.Errno) { return table.Insert(columns("a b", list(), list()), v) },
		"Set":              func() (api.V, api.Errno) { return table.Set(columns("a", l), "b", l) },
		"Update": func() (api.V, api.Errno) {
			return table.Update(columns("a b", list(ints(1, 2), list()), l), "a", []int{1}, list(l.L[0]))
		},
		"Update twice": func() (api.V, api.Errno) {
			return table.Update(columns("a b", list(list(), list()), l), "a", []int{0, 1}, l)
		},
		"Sort": func() (api.V, api.Errno) { return table.Sort(v, "a") },
	} {
		got, e := call()
		is(t, name, e, api.OK)
		is(t, name, value.Match(got.L[0], l) && value.Match(got.L[1], l), true)
		scribble(got.L[0].L[0])
		is(t, name, value.Match(got.L[0].L[1], ints(1, 2)), true)
		scribble(got.L[0].L[1])
		is(t, name, value.Match(got.L[1], l), true)
		scribble(got.L[1].L[0])
		is(t, name, value.Match(got.L[1].L[1], ints(1, 2)), true)
	}
}

// l2 is a list with one element more.
func l2(l api.V) api.V { return list(l.L[0], l.L[1], list()) }

// TestNilOrEmpty: rule 3: nil and an empty list are the same.
func TestNilOrEmpty(t *testing.T) {
	for k := api.KList; k <= api.KDec; k++ {
		bare, full := api.V{T: k}, api.V{T: k, N: []int64{}, S: []string{}, L: []api.V{}}
		one, other := columns("a b", bare, bare), columns("a b", full, full)
		other.N = []int64{}
		for name, call := range calls() {
			for _, names := range [][]string{{"a", "b"}, {"b", "q"}} {
				for _, h := range [][2]handed{{{one, bare, names, nil}, {other, full, names, []int{}}}, {{one, one, names, nil}, {other, other, names, []int{}}}} {
					a, e := call(h[0])
					b, f := call(h[1])
					is(t, name, e, f)
					is(t, name, value.Match(a, b), true)
				}
			}
		}
	}
}

// junk draws anything at all, often of a kind that calls look into.
func junk(draw func(int) int, depth int) api.V {
	kinds := []int{0, 1, 2, 3, 4, 5, -1, -2, -3, -4, -5, 6, -6, 98, 99, 100, 101, -98, -99, math.MinInt, math.MaxInt, 0, 0, 0, 2, 3, 98, 99, -2, -2, -3, -3}
	v := api.V{T: kinds[draw(len(kinds))]}
	for range draw(3) {
		v.N = append(v.N, []int64{0, 1, -1, 2, null, math.MaxInt64}[draw(6)])
	}
	for range draw(3) {
		v.S = append(v.S, []string{"a", "b", "", "{}", "a\x00"}[draw(5)])
	}
	parts := draw(4)
	if v.T == api.KDict && draw(4) > 0 {
		parts = 2
	}
	if v.T == api.KTable && draw(4) > 0 {
		parts = len(v.S)
	}
	for range parts * min(depth, 1) {
		v.L = append(v.L, junk(draw, depth-1))
	}
	return v
}

// junkTable draws what looks like a table, of columns that have all that they need not, now and then of unlike counts.
func junkTable(draw func(int) int) api.V {
	t := columns([]string{"a", "a b", "b a q"}[draw(3)])
	count := draw(4)
	for range t.S {
		column := api.V{T: draw(api.KDec + 1)}
		if draw(6) == 0 {
			count = draw(4)
		}
		for range count {
			column.N = append(column.N, int64(draw(3)))
			column.S = append(column.S, []string{"a", "", "a\x00"}[draw(3)])
			column.L = append(column.L, junk(draw, draw(3)))
		}
		t.L = append(t.L, column)
	}
	return t
}

// TestTotal: rule 1: no call panics, whatever is handed in, and beside an error is nothing.
func TestTotal(t *testing.T) {
	draw := draws(119)
	for range 30000 {
		h := handed{v: junk(draw, draw(4)), x: junk(draw, draw(4))}
		switch draw(4) {
		case 0:
			h.v = junkTable(draw)
		case 1:
			h.v, h.x = junkTable(draw), junkTable(draw)
		case 2:
			h.v = drawn(draw)
		}
		h.names = [][]string{{"a", "b"}, {"b", "a", "q"}, {"", "a"}, {"a", "a\x00", "a"}, {"q", "a"}}[draw(5)]
		for range draw(5) {
			h.places = append(h.places, []int{0, 1, 2, -1, 3, math.MinInt, math.MaxInt, 0, 0, 0, 1, 1}[draw(12)])
		}
		mine := h.roomy()
		for name, call := range calls() {
			v, e := call(mine)
			if e != api.OK && !value.Match(v, api.V{}) {
				t.Fatalf("%s of %s: %s beside error %d", name, told(h.v, h.x), told(v), e)
			}
			untouched(t, name, mine, h)
		}
	}
}
