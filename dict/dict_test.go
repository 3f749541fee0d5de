package dict_test

import (
	"fmt"
	"testing"

	"quiver/api"
	"quiver/dict"
	"quiver/value"
)

const null = api.Null

// draws is a row of numbers that looks random, and is the same each time.
func draws(seed uint64) func(below int) int {
	return func(below int) int {
		seed = seed*6364136223846793005 + 1442695040888963407
		return int(seed>>33) % below
	}
}

func is[K comparable](t *testing.T, what string, got, want K) {
	t.Helper()
	if got != want {
		t.Fatalf("%.300s: %.300s, not %.300s", what, fmt.Sprint(got), fmt.Sprint(want))
	}
}

// The kinds of values, written out without the packages' help.
func vector(t int, n ...int64) api.V { return api.V{T: t, N: n} }
func symbols(s ...string) api.V      { return api.V{T: api.KSym, S: s} }
func atom(t int, n int64) api.V      { return api.V{T: -t, N: []int64{n}} }
func symbol(s string) api.V          { return api.V{T: -api.KSym, S: []string{s}} }
func list(l ...api.V) api.V          { return api.V{T: api.KList, L: l} }
func pairs(k, v api.V) api.V         { return api.V{T: api.KDict, L: []api.V{k, v}} }
func lambda(s string) api.V          { return api.V{T: api.KLambda, S: []string{s}} }
func nothing() api.V                 { return api.V{T: api.KNil} }
func bools(n ...int64) api.V         { return vector(api.KBool, n...) }
func ints(n ...int64) api.V          { return vector(api.KInt, n...) }
func times(n ...int64) api.V         { return vector(api.KTime, n...) }
func decs(n ...int64) api.V          { return vector(api.KDec, n...) }
func truth(n int64) api.V            { return atom(api.KBool, n) }
func one(n int64) api.V              { return atom(api.KInt, n) }
func at(n int64) api.V               { return atom(api.KTime, n) }
func dec(n int64) api.V              { return atom(api.KDec, n) }
func table(name string, l api.V) api.V {
	return api.V{T: api.KTable, S: []string{name}, L: []api.V{l}}
}

// deep is a list of that depth, with one element.
func deep(depth int) api.V {
	v := ints(1)
	for range depth - 1 {
		v = list(v)
	}
	return v
}

// til is the ints ahead of n.
func til(n int) api.V {
	l := ints()
	for i := range n {
		l.N = append(l.N, int64(i))
	}
	return l
}

// noSequences are values that are no vectors and no lists.
func noSequences() []api.V {
	t := table("a", ints(1, 2))
	return []api.V{t, table("a", ints()), pairs(ints(1), ints(2)), pairs(list(), ints()), pairs(t, t), lambda("{x}"), nothing(), one(1), one(null), truth(0), at(1), dec(1), symbol("a"), symbol("")}
}

// noDicts are values that are no dictionaries, and keyed tables.
func noDicts() []api.V {
	t := table("a", ints(1, 2))
	l := []api.V{pairs(t, t), pairs(table("a", ints()), table("b", list())), ints(1, 2), ints(), symbols("a"), bools(), list(), list(ints(1), ints(2)), list(symbols("a"), symbols("b"))}
	for _, v := range noSequences() {
		if v.T != api.KDict {
			l = append(l, v)
		}
	}
	return l
}

// elements are those of a sequence, as values.
func elements(v api.V) []api.V {
	l := append([]api.V{}, v.L...)
	for _, n := range v.N {
		l = append(l, atom(v.T, n))
	}
	for _, s := range v.S {
		l = append(l, symbol(s))
	}
	return l
}

// told is values in few words.
func told(l ...api.V) string { return fmt.Sprintf("%.300s", fmt.Sprint(l)) }

// wants holds an answer against the value that it ought to be, or the error.
func wants(t *testing.T, got api.V, e api.Errno, want api.V, wantE api.Errno, what string, handed ...api.V) {
	t.Helper()
	if e != wantE || !value.Match(got, want) || value.Check(got) != api.OK {
		t.Fatalf("%s of %s: %s, error %d; not %s, error %d", what, told(handed...), told(got), e, told(want), wantE)
	}
}

func wantMake(t *testing.T, k, v, want api.V, wantE api.Errno) {
	t.Helper()
	got, e := dict.Make(k, v)
	wants(t, got, e, want, wantE, "Make", k, v)
}

func wantFind(t *testing.T, d, x api.V, want int, wantE api.Errno) {
	t.Helper()
	got, e := dict.Find(d, x)
	if got != want || e != wantE {
		t.Fatalf("Find of %s: %d, error %d; not %d, error %d", told(d, x), got, e, want, wantE)
	}
}

func wantGet(t *testing.T, want, d api.V, x ...api.V) {
	t.Helper()
	got, e := dict.Get(d, x...)
	wants(t, got, e, want, api.OK, "Get", append([]api.V{d}, x...)...)
}

// TestExamples: the chapter's examples.
func TestExamples(t *testing.T) {
	d := pairs(symbols("a", "b"), ints(1, 2))
	wantMake(t, symbols("a", "b"), ints(1, 2), d, api.OK)
	wantGet(t, one(2), d, symbol("b"))
	wantGet(t, one(null), d, symbol("c"))
	wantGet(t, ints(2, 1), d, symbol("b"), symbol("a"))
	wantPut(t, d, symbol("a"), one(7), pairs(symbols("a", "b"), ints(7, 2)), api.OK)
	wantPut(t, d, symbol("c"), symbol("x"), pairs(symbols("a", "b", "c"), list(one(1), one(2), symbol("x"))), api.OK)
	wantGroup(t, symbols("x", "y", "x"), pairs(symbols("x", "y"), list(ints(0, 2), ints(1))), api.OK)
	wantJoin(t, pairs(symbols("a", "b", "c"), ints(1, 5, 6)), d, pairs(symbols("b", "c"), ints(5, 6)))
	wantDrop(t, pairs(symbols("b"), ints(2)), d, symbol("a"), symbol("q"))
}

// TestMake: P10.1: what is made, with its keys and its values.
func TestMake(t *testing.T) {
	l := list(one(1), symbol("a"))
	for _, c := range [][2]api.V{
		{symbols("a", "b"), ints(1, 2)},
		{ints(1, 1, 1), bools(0, 1, 0)}, // keys that come twice stay
		{list(), list()},
		{list(), ints()},
		{times(), list()},
		{symbols(), decs()},
		{l, l},
		{list(ints(1), list()), times(5, null)},
		{decs(1, 2), list(table("a", ints(1)), lambda("{x}"))},
		{list(pairs(ints(1), ints(2)), pairs(table("a", ints(1)), table("b", ints(1)))), symbols("", "x")},
		{til(api.MaxCount), til(api.MaxCount)},
	} {
		d := pairs(c[0], c[1])
		wantMake(t, c[0], c[1], d, api.OK)
		k, e := dict.Keys(d)
		wants(t, k, e, c[0], api.OK, "Keys", d)
		v, e := dict.Values(d)
		wants(t, v, e, c[1], api.OK, "Values", d)
	}
}

// TestMakeErrors: P10.1: the errors, and which comes first.
func TestMakeErrors(t *testing.T) {
	for _, x := range noSequences() {
		for _, l := range []api.V{ints(1), ints(), list(), deep(api.MaxDepth), symbols("a", "b"), x} {
			wantMake(t, x, l, api.V{}, api.ErrType)
			wantMake(t, l, x, api.V{}, api.ErrType)
		}
	}
	wantMake(t, ints(1), ints(), api.V{}, api.ErrLength)
	wantMake(t, list(), symbols("a"), api.V{}, api.ErrLength)
	wantMake(t, ints(1, 2), list(ints(1), ints(2), ints(3)), api.V{}, api.ErrLength)
	wantMake(t, deep(api.MaxDepth), ints(1, 2), api.V{}, api.ErrLength)
	wantMake(t, ints(1, 2), deep(api.MaxDepth), api.V{}, api.ErrLength)
	wantMake(t, deep(api.MaxDepth), ints(1), api.V{}, api.ErrMany)
	wantMake(t, ints(1), deep(api.MaxDepth), api.V{}, api.ErrMany)
	wantMake(t, deep(api.MaxDepth-1), ints(1), pairs(deep(api.MaxDepth-1), ints(1)), api.OK)
	wantMake(t, ints(1), deep(api.MaxDepth-1), pairs(ints(1), deep(api.MaxDepth-1)), api.OK)
}

// TestNoDictionary: of anything but a dictionary whose keys are a sequence: ErrType.
func TestNoDictionary(t *testing.T) {
	for _, d := range noDicts() {
		for name, call := range calls() {
			if name == "Make" || name == "Append" || name == "Group" {
				continue
			}
			for _, l := range [][]api.V{{d, one(1), one(2)}, {d, nothing(), nothing()}, {d, d, d}, {d, deep(api.MaxDepth), deep(api.MaxDepth)}} {
				got, e := call(l)
				wants(t, got, e, api.V{}, api.ErrType, name, l...)
			}
		}
		for _, call := range []func(api.V, ...api.V) (api.V, api.Errno){dict.Get, dict.Drop} {
			got, e := call(d)
			wants(t, got, e, api.V{}, api.ErrType, "Get, Drop of none", d)
		}
		wantFind(t, d, one(1), 0, api.ErrType)
		wantFind(t, d, nothing(), 0, api.ErrType)
	}
}

// TestFind: P10.3.
func TestFind(t *testing.T) {
	d := pairs(symbols("a", "", "b", "a"), ints(1, 2, 3, 4))
	wantFind(t, d, symbol("a"), 0, api.OK)
	wantFind(t, d, symbol(""), 1, api.OK)
	wantFind(t, d, symbol("b"), 2, api.OK)
	wantFind(t, d, symbol("c"), 4, api.OK)
	wantFind(t, d, symbols("a"), 4, api.OK)
	wantFind(t, d, one(1), 4, api.OK)
	wantFind(t, d, nothing(), 4, api.OK)
	d = pairs(ints(1, null, 1), ints(1, 2, 3))
	wantFind(t, d, one(1), 0, api.OK)
	wantFind(t, d, one(null), 1, api.OK)
	wantFind(t, d, dec(1), 3, api.OK)
	wantFind(t, d, at(1), 3, api.OK)
	wantFind(t, d, truth(1), 3, api.OK)
	wantFind(t, d, ints(1), 3, api.OK)
	l := list(ints(1), one(1), list(), table("a", ints(1)), lambda("{x}"), pairs(ints(1), ints(2)), symbol("a"))
	d = pairs(l, til(7))
	for i, x := range l.L {
		wantFind(t, d, x, i, api.OK)
	}
	wantFind(t, d, ints(), 7, api.OK)
	wantFind(t, d, table("b", ints(1)), 7, api.OK)
	wantFind(t, pairs(list(), list()), list(), 0, api.OK)
	wantFind(t, pairs(ints(), ints()), one(1), 0, api.OK)
}

// TestGet: P10.3: of one, of several, of none.
func TestGet(t *testing.T) {
	for _, c := range []struct{ v, null api.V }{
		{bools(1, 0, 1), truth(0)},
		{ints(5, 6, 7), one(null)},
		{symbols("x", "y", "z"), symbol("")},
		{times(5, 6, 7), at(null)},
		{decs(5, 6, 7), dec(null)},
		{list(ints(5), one(6), symbol("z")), list()},
		{list(list(), table("a", ints(1)), lambda("{x}")), list()},
	} {
		d := pairs(symbols("a", "b", "a"), c.v)
		l := elements(c.v)
		wantGet(t, l[0], d, symbol("a"))
		wantGet(t, l[1], d, symbol("b"))
		for _, x := range []api.V{symbol("c"), symbols("a"), one(1), list(), nothing()} {
			wantGet(t, c.null, d, x)
			wantGet(t, value.Of(c.null, l[1], c.null), d, x, symbol("b"), x)
		}
		wantGet(t, value.Of(l[1], l[0], l[1], l[0], l[0]), d, symbol("b"), symbol("a"), symbol("b"), symbol("a"), symbol("a"))
		wantGet(t, value.Empty(c.v.T), d)
		empty := pairs(symbols(), value.Empty(c.v.T))
		wantGet(t, c.null, empty, symbol("a"))
		wantGet(t, value.Of(c.null, c.null), empty, symbol("a"), symbol("b"))
		wantGet(t, value.Empty(c.v.T), empty)
	}
	d := pairs(list(symbol("a"), ints(1), one(1)), list(one(5), one(6), symbol("x")))
	wantGet(t, one(6), d, ints(1))
	wantGet(t, ints(6, 5), d, ints(1), symbol("a")) // value.Of makes it a vector
	wantGet(t, list(one(6), symbol("x")), d, ints(1), one(1))
	wantGet(t, list(one(6), list()), d, ints(1), ints(2))
}
