package value_test

import (
	"math"
	"slices"
	"strconv"
	"strings"
	"testing"

	"quiver/api"
	"quiver/value"
)

// draws is a row of numbers that looks random, and is the same each time.
func draws(seed uint64) func(below int) int {
	return func(below int) int {
		seed = seed*6364136223846793005 + 1442695040888963407
		return int(seed>>33) % below
	}
}

// same asks, without the package's help, whether two are alike in all fields.
func same(a, b api.V) bool {
	if a.T != b.T || len(a.N) != len(b.N) || len(a.S) != len(b.S) || len(a.L) != len(b.L) {
		return false
	}
	for i := range a.N {
		if a.N[i] != b.N[i] {
			return false
		}
	}
	for i := range a.S {
		if a.S[i] != b.S[i] {
			return false
		}
	}
	for i := range a.L {
		if !same(a.L[i], b.L[i]) {
			return false
		}
	}
	return true
}

// told is how a value is told where a test fails: no more than its beginning.
func told(v api.V) string { return toldTo(v, 6) }

func toldTo(v api.V, depth int) string {
	if depth == 0 {
		return ".."
	}
	s := "{" + strconv.Itoa(v.T)
	for _, n := range v.N[:min(len(v.N), 9)] {
		s += " " + strconv.FormatInt(n, 10)
	}
	for _, x := range v.S[:min(len(v.S), 9)] {
		s += " " + strconv.Quote(x[:min(len(x), 9)])
	}
	for _, x := range v.L[:min(len(v.L), 9)] {
		s += " " + toldTo(x, depth-1)
	}
	return s + "}"
}

func wantV(t *testing.T, what string, got, want api.V) {
	t.Helper()
	if !same(got, want) {
		t.Fatalf("%s: %s, not %s", what, told(got), told(want))
	}
}

func is[K comparable](t *testing.T, what string, got, want K) {
	t.Helper()
	if got != want {
		t.Fatalf("%s: %v, not %v", what, got, want)
	}
}

// The kinds of values, written out without the package's help.
func vector(t int, n ...int64) api.V   { return api.V{T: t, N: n} }
func symbols(s ...string) api.V        { return api.V{T: api.KSym, S: s} }
func atom(t int, n int64) api.V        { return api.V{T: -t, N: []int64{n}} }
func symbol(s string) api.V            { return api.V{T: -api.KSym, S: []string{s}} }
func list(l ...api.V) api.V            { return api.V{T: api.KList, L: l} }
func dict(k, v api.V) api.V            { return api.V{T: api.KDict, L: []api.V{k, v}} }
func lambda(s string) api.V            { return api.V{T: api.KLambda, S: []string{s}} }
func nothing() api.V                   { return api.V{T: api.KNil} }
func ints(n ...int64) api.V            { return vector(api.KInt, n...) }
func one(n int64) api.V                { return atom(api.KInt, n) }
func table(s string, l ...api.V) api.V { return api.V{T: api.KTable, S: strings.Fields(s), L: l} }

// nest is v in so many lists.
func nest(v api.V, lists int) api.V {
	for range lists {
		v = list(v)
	}
	return v
}

func numeric() []int { return []int{api.KBool, api.KInt, api.KTime, api.KDec} }

// samples are values of every kind, each unlike all others, with the edges.
func samples() []api.V {
	l := []api.V{nothing(), symbol(""), symbol("a"), symbol("ab"), symbol("b"), symbol("\xff"), symbols(), symbols(""), symbols("a"), symbols("a", ""), symbols("a", "b"), symbols("ab"), symbols("b")}
	for _, k := range numeric() {
		l = append(l, atom(k, 0), atom(k, 1), vector(k), vector(k, 0), vector(k, 0, 1), vector(k, 1), vector(k, 1, 0))
	}
	for _, k := range numeric()[1:] {
		l = append(l, atom(k, api.Null), atom(k, -1), atom(k, math.MaxInt64), vector(k, api.Null), vector(k, -5, 7), vector(k, 0, api.Null))
	}
	l = append(l, list(), list(list()), list(ints()), list(ints(1, 2), symbol("a")), list(one(1), symbol("a")), list(one(1), symbol("a"), one(2)), list(one(2), symbol("a")), nest(list(), api.MaxDepth-1))
	l = append(l, lambda("{}"), lambda("{x}"), lambda("{x+y}"), lambda("{\x00}"))
	l = append(l, dict(ints(), list()), dict(list(), ints()), dict(symbols("a", "b"), ints(1, 2)), dict(symbols("a", "b"), ints(1, 3)), dict(symbols("a", "c"), ints(0, 0)), dict(ints(7), list(table("a", ints(1)))))
	abc := table("a b", ints(1, 2), symbols("x", "y"))
	l = append(l, table("a", ints()), table("a", list()), table("a b", ints(), symbols()), abc, table("a b", ints(1, 3), symbols("x", "x")), table("b a", ints(1, 2), symbols("x", "y")), table("ab", list(ints(1, 2), lambda("{}"), table("z", ints(1, 2)))))
	return append(l, dict(abc, table("c", list(ints(1), one(4)))), dict(table("a", ints()), table("c", symbols())), dict(abc, table("a", ints(8, 9))))
}

// TestVectors: P3.2.
func TestVectors(t *testing.T) {
	wantV(t, "Bool", value.Bool(true, false, true), vector(api.KBool, 1, 0, 1))
	wantV(t, "Int", value.Int(1, api.Null, math.MaxInt64), vector(api.KInt, 1, math.MinInt64, math.MaxInt64))
	wantV(t, "Time", value.Time(-3), vector(api.KTime, -3))
	wantV(t, "Dec", value.Dec(15000, 0), vector(api.KDec, 15000, 0))
	wantV(t, "Sym", value.Sym("a", "", "a\x00"), symbols("a", "", "a\x00"))
	wantV(t, "no bools", value.Bool(), vector(api.KBool))
	wantV(t, "no ints", value.Int(), vector(api.KInt))
	wantV(t, "no times", value.Time(), vector(api.KTime))
	wantV(t, "no decs", value.Dec(), vector(api.KDec))
	wantV(t, "no symbols", value.Sym(), symbols())
	wantV(t, "too many", value.Int(make([]int64, api.MaxCount+1)...), ints(make([]int64, api.MaxCount+1)...))
}

// TestAtoms: P3.2.
func TestAtoms(t *testing.T) {
	for _, k := range numeric() {
		for _, n := range []int64{0, 1, 2, -1, api.Null, math.MaxInt64} {
			wantV(t, "Atom", value.Atom(k, n), atom(k, n))
			wantV(t, "Atom of the negative", value.Atom(-k, n), atom(k, n))
		}
	}
	for _, k := range []int{api.KList, api.KSym, -api.KSym, 6, -6, api.KTable, -api.KTable, api.KDict, api.KLambda, api.KNil, math.MinInt, math.MaxInt} {
		wantV(t, "Atom of another", value.Atom(k, 1), nothing())
	}
	wantV(t, "Symbol", value.Symbol("ab"), symbol("ab"))
	wantV(t, "Symbol of nothing", value.Symbol(""), symbol(""))
	wantV(t, "Symbol that is none", value.Symbol(strings.Repeat("\x00", 99)), symbol(strings.Repeat("\x00", 99)))
	wantV(t, "Nil", value.Nil(), nothing())
}

// TestOf: P3.3, and example 1.
func TestOf(t *testing.T) {
	for _, c := range []struct {
		got, want api.V
	}{
		{value.Of(one(1), one(2)), ints(1, 2)},
		{value.Of(one(1), symbol("a")), list(one(1), symbol("a"))},
		{value.Of(), list()},
		{value.Of(one(1)), ints(1)},
		{value.Of(symbol("a"), symbol("")), symbols("a", "")},
		{value.Of(atom(api.KBool, 1)), vector(api.KBool, 1)},
		{value.Of(atom(api.KTime, 1), atom(api.KTime, 0)), vector(api.KTime, 1, 0)},
		{value.Of(atom(api.KDec, 1), atom(api.KDec, 0)), vector(api.KDec, 1, 0)},
		{value.Of(atom(api.KDec, 1), atom(api.KTime, 0)), list(atom(api.KDec, 1), atom(api.KTime, 0))},
		{value.Of(ints(1)), list(ints(1))},
		{value.Of(one(1), ints(1)), list(one(1), ints(1))},
		{value.Of(ints(1), one(1)), list(ints(1), one(1))},
		{value.Of(list()), list(list())},
		{value.Of(lambda("{}"), lambda("{}")), list(lambda("{}"), lambda("{}"))},
		{value.Of(nothing()), list(nothing())},
		{value.Of(one(1), nothing()), list(one(1), nothing())},
	} {
		wantV(t, "Of", c.got, c.want)
	}
}

// TestOfNoValues: P3.3: an atom is told by its type alone.
func TestOfNoValues(t *testing.T) {
	odd := api.V{T: -api.KInt, N: []int64{1, 2}, S: []string{"a"}, L: []api.V{one(1)}}
	bare := api.V{T: -api.KInt}
	wantV(t, "what N and S have", value.Of(odd, bare, one(3), odd), api.V{T: api.KInt, N: []int64{1, 2, 3, 1, 2}, S: []string{"a", "a"}})
	wantV(t, "no element", value.Of(bare), ints())
	wantV(t, "symbols", value.Of(api.V{T: -api.KSym, S: []string{"a", "b"}}, symbol("c")), symbols("a", "b", "c"))
	for _, k := range []int{-6, -api.KTable, -api.KDict, -api.KLambda, -api.KNil, math.MinInt} {
		x := api.V{T: k, N: []int64{1}}
		wantV(t, "no type of an atom", value.Of(x, x), list(x, x))
	}
}

// TestKinds: P3.4.
func TestKinds(t *testing.T) {
	for _, v := range samples() {
		is(t, "Type", value.Type(v), v.T)
		is(t, "IsAtom "+told(v), value.IsAtom(v), v.T < 0)
		is(t, "Numeric "+told(v), value.Numeric(v), slices.Contains(numeric(), v.T) || slices.Contains(numeric(), -v.T))
	}
}

// TestCount: P3.4, and 3.1: also of what is no value.
func TestCount(t *testing.T) {
	junk := api.V{T: api.KInt, N: make([]int64, 3), S: make([]string, 5), L: make([]api.V, 7)}
	as := func(k int) api.V { return api.V{T: k, N: junk.N, S: junk.S, L: junk.L} }
	for _, c := range []struct {
		v    api.V
		want int
	}{
		{ints(1, 2, 3), 3}, {ints(), 0}, {symbols("a"), 1}, {symbols(), 0}, {list(), 0}, {list(ints(1, 2)), 1},
		{one(1), 1}, {symbol("ab"), 1}, {lambda("{x}"), 1}, {nothing(), 1},
		{table("a b", ints(1, 2), symbols("x", "y")), 2}, {table("a", ints()), 0}, {table("a b", ints(1), ints(1, 2)), 1},
		{dict(ints(1, 2), symbols("a", "b")), 2}, {dict(list(), list()), 0}, {dict(ints(1), ints(1, 2)), 1},
		{dict(table("a", ints(1, 2)), table("b", ints(1, 2))), 2},
		{table("a"), 1}, {api.V{T: api.KTable}, 1}, {api.V{T: api.KDict}, 1}, {table("a", one(5)), 1},
		{api.V{T: api.KDict, L: []api.V{table("a", list(one(1), one(2), one(3)))}}, 3},
		{as(api.KBool), 3}, {as(api.KInt), 3}, {as(api.KTime), 3}, {as(api.KDec), 3}, {as(api.KSym), 5}, {as(api.KList), 7},
		{as(-api.KInt), 1}, {as(-api.KSym), 1}, {as(api.KLambda), 1}, {as(api.KNil), 1}, {as(6), 1}, {as(math.MinInt), 1}, {as(api.KTable), 0},
	} {
		is(t, "Count "+told(c.v), value.Count(c.v), c.want)
	}
}

// TestNull: P3.5.
func TestNull(t *testing.T) {
	for _, sign := range []int{1, -1} {
		for _, k := range numeric()[1:] {
			wantV(t, "Null", value.Null(sign*k), atom(k, math.MinInt64))
			wantV(t, "Empty", value.Empty(sign*k), vector(k))
		}
		wantV(t, "Null of bools", value.Null(sign*api.KBool), atom(api.KBool, 0))
		wantV(t, "Empty of bools", value.Empty(sign*api.KBool), vector(api.KBool))
		wantV(t, "Null of symbols", value.Null(sign*api.KSym), symbol(""))
		wantV(t, "Empty of symbols", value.Empty(sign*api.KSym), symbols())
	}
	for _, k := range []int{api.KList, 6, -6, api.KTable, api.KDict, api.KLambda, api.KNil, -api.KNil, math.MinInt, math.MaxInt} {
		wantV(t, "Null of another", value.Null(k), nothing())
		wantV(t, "Empty of another", value.Empty(k), list())
	}
}

// TestIsNull: P3.5.
func TestIsNull(t *testing.T) {
	for _, k := range numeric() {
		v := vector(k, 0, api.Null, api.Null+1, math.MaxInt64)
		for i, want := range map[int]bool{0: false, 1: k != api.KBool, 2: false, 3: false, 4: false, -1: false, math.MinInt: false, math.MaxInt: false} {
			is(t, "a vector", value.IsNull(v, i), want)
		}
		is(t, "an atom", value.IsNull(atom(k, api.Null), 0), k != api.KBool)
		is(t, "an atom that is not null", value.IsNull(atom(k, 0), 0), false)
		is(t, "an atom has one", value.IsNull(atom(k, api.Null), 1), false)
		is(t, "before an atom", value.IsNull(atom(k, api.Null), -1), false)
		is(t, "Null", value.IsNull(value.Null(k), 0), k != api.KBool)
	}
	is(t, "a symbol", value.IsNull(symbol(""), 0), true)
	is(t, "behind a symbol", value.IsNull(symbol(""), 1), false)
	is(t, "another symbol", value.IsNull(symbol("a"), 0), false)
	v := symbols("a", "", " ")
	for i, want := range map[int]bool{-1: false, 0: false, 1: true, 2: false, 3: false} {
		is(t, "symbols", value.IsNull(v, i), want)
	}
	for _, v := range []api.V{nothing(), list(), list(symbol(""), one(api.Null)), table("a", symbols("")), dict(symbols(""), symbols("")), lambda("{}"), ints(), symbols()} {
		is(t, "all others "+told(v), value.IsNull(v, 0), false)
	}
}
