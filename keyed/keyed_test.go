package keyed_test

import (
	"fmt"
	"slices"
	"strconv"
	"strings"
	"testing"

	"quiver/api"
	"quiver/keyed"
	"quiver/value"
)

const null = api.Null

// draws is a row of numbers that looks random, and is the same each time.
func draws(seed uint64) func(below int) int {
	return func(below int) int {
		seed = seed*6364136223846793005 + 1442695040888963407
		return int(seed>>33) % below
	}
}

func is[K comparable](t *testing.T, what string, got, want K) {
	t.Helper()
	if got != want {
		t.Fatalf("%.300s: %.300s, not %.300s", what, fmt.Sprint(got), fmt.Sprint(want))
	}
}

// The kinds of values, written out without the packages' help.
func vector(t int, n ...int64) api.V { return api.V{T: t, N: n} }
func symbols(s ...string) api.V      { return api.V{T: api.KSym, S: s} }
func atom(t int, n int64) api.V      { return api.V{T: -t, N: []int64{n}} }
func symbol(s string) api.V          { return api.V{T: -api.KSym, S: []string{s}} }
func list(l ...api.V) api.V          { return api.V{T: api.KList, L: l} }
func pairs(k, v api.V) api.V         { return api.V{T: api.KDict, L: []api.V{k, v}} }
func lambda(s string) api.V          { return api.V{T: api.KLambda, S: []string{s}} }
func nothing() api.V                 { return api.V{T: api.KNil} }
func bools(n ...int64) api.V         { return vector(api.KBool, n...) }
func ints(n ...int64) api.V          { return vector(api.KInt, n...) }
func times(n ...int64) api.V         { return vector(api.KTime, n...) }
func decs(n ...int64) api.V          { return vector(api.KDec, n...) }
func truth(n int64) api.V            { return atom(api.KBool, n) }
func one(n int64) api.V              { return atom(api.KInt, n) }
func at(n int64) api.V               { return atom(api.KTime, n) }
func dec(n int64) api.V              { return atom(api.KDec, n) }

// columns is a table; its names stand in one text.
func columns(names string, cols ...api.V) api.V {
	return api.V{T: api.KTable, S: strings.Fields(names), L: cols}
}

// row is a dictionary; its names stand in one text.
func row(names string, values api.V) api.V {
	return pairs(symbols(strings.Fields(names)...), values)
}

// small is the keyed table of the chapter's examples.
func small() api.V { return pairs(columns("a", ints(1, 2)), columns("b", symbols("x", "y"))) }

// deep is a list of that depth, with one element.
func deep(depth int) api.V {
	v := ints(1)
	for range depth - 1 {
		v = list(v)
	}
	return v
}

// til is the ints ahead of n.
func til(n int) api.V {
	l := ints()
	for i := range n {
		l.N = append(l.N, int64(i))
	}
	return l
}

// wide is a table of so many columns, of the count 1, whose names begin so.
func wide(begin string, count int) api.V {
	t := columns("")
	for i := range count {
		t.S = append(t.S, begin+strconv.Itoa(i))
		t.L = append(t.L, ints(int64(i)))
	}
	return t
}

// atoms are some of each type.
func atoms() []api.V {
	return []api.V{one(1), one(null), truth(0), at(1), dec(1), symbol("a"), symbol("")}
}

// noKeyed are values that are no keyed tables.
func noKeyed() []api.V {
	t := columns("a", ints(1))
	return append(atoms(), ints(1, 2), ints(), symbols("a"), bools(), times(1), decs(), list(), list(t, t), list(small(), small()), t,
		columns("a b", ints(), list()), pairs(ints(1), ints(2)), pairs(list(), ints()), pairs(list(t), list(t)), row("a b", list(one(1), symbol("x"))), row("a", list(t)), pairs(list(small()), ints(1)), lambda("{x}"), nothing())
}

// noSchemas are keyed tables whose columns' names are not unlike, or too many together.
func noSchemas() []api.V {
	return []api.V{
		pairs(columns("a", ints(1)), columns("a", ints(1))),
		pairs(columns("a", ints()), columns("a", symbols())),
		pairs(columns("a b", ints(1), ints(1)), columns("c a", ints(1), ints(2))),
		pairs(columns("c b", ints(1, 1), ints(1, 1)), columns("b", list(list(), ints(1)))),
		pairs(wide("k", 1), wide("v", api.MaxColumns)),
		pairs(wide("k", api.MaxColumns), wide("v", 1)),
		pairs(wide("k", api.MaxColumns), wide("k", api.MaxColumns)),
		pairs(wide("k", api.MaxColumns), wide("v", api.MaxColumns)),
	}
}

// elements are those of a sequence, as values.
func elements(v api.V) []api.V {
	l := append([]api.V{}, v.L...)
	for _, n := range v.N {
		l = append(l, atom(v.T, n))
	}
	for _, s := range v.S {
		l = append(l, symbol(s))
	}
	return l
}

// told is values in few words.
func told(l ...api.V) string { return fmt.Sprintf("%.400s", fmt.Sprint(l)) }

// wants holds an answer against the value that it ought to be, or the error.
func wants(t *testing.T, got api.V, e api.Errno, want api.V, wantE api.Errno, what string, handed ...api.V) {
	t.Helper()
	if e != wantE || !value.Match(got, want) || value.Check(got) != api.OK {
		t.Fatalf("%s of %s: %s, error %d; not %s, error %d", what, told(handed...), told(got), e, told(want), wantE)
	}
}

// made holds an answer against the value that it ought to be.
func made(t *testing.T, want api.V) func(got api.V, e api.Errno) {
	return func(got api.V, e api.Errno) {
		t.Helper()
		wants(t, got, e, want, api.OK, "answer")
	}
}

// refused holds an answer against the error that it ought to be.
func refused(t *testing.T, want api.Errno) func(got api.V, e api.Errno) {
	return func(got api.V, e api.Errno) {
		t.Helper()
		wants(t, got, e, api.V{}, want, "answer")
	}
}

func wantNames(t *testing.T, k api.V, keys, others string) {
	t.Helper()
	a, b, e := keyed.Names(k)
	if e != api.OK || !slices.Equal(a, strings.Fields(keys)) || !slices.Equal(b, strings.Fields(others)) {
		t.Fatalf("Names of %s: %v, %v, error %d", told(k), a, b, e)
	}
}

func wantUnique(t *testing.T, k api.V, want bool) {
	t.Helper()
	got, e := keyed.Unique(k)
	is(t, "Unique of "+told(k), e, api.OK)
	is(t, "Unique of "+told(k), got, want)
}

// wantFind holds Find, of a key.
func wantFind(t *testing.T, k api.V, want int, x ...api.V) {
	t.Helper()
	got, e := keyed.Find(k, x...)
	is(t, "Find in "+told(k)+" of "+told(x...), e, api.OK)
	is(t, "Find in "+told(k)+" of "+told(x...), got, want)
}

func wantPlaces(t *testing.T, k, of api.V, want ...int) {
	t.Helper()
	got, e := keyed.Places(k, of)
	if e != api.OK || !slices.Equal(got, want) {
		t.Fatalf("Places in %s of %s: %v, error %d; not %v", told(k), told(of), got, e, want)
	}
}

// TestExamples: the chapter's examples.
func TestExamples(t *testing.T) {
	k := small()
	made(t, row("b", symbols("y")))(keyed.Get(k, one(2)))
	made(t, row("b", symbols("")))(keyed.Get(k, one(3)))
	rows := columns("b a", symbols("z", "w"), ints(2, 3))
	made(t, pairs(columns("a", ints(1, 2, 3)), columns("b", symbols("x", "z", "w"))))(keyed.Upsert(k, rows))
	refused(t, api.ErrKey)(keyed.Insert(k, rows))
	refused(t, api.ErrKey)(keyed.Key(columns("a b", ints(1, 1), ints(2, 3)), "a"))
	wantPlaces(t, k, columns("a", ints(2, 9, 1)), 1, -1, 0)
}

// TestKey: P12.1: the columns of that order, and the others.
func TestKey(t *testing.T) {
	v := columns("a b c", ints(1, 2), symbols("x", "y"), bools(1, 1))
	a, b, c := v.L[0], v.L[1], v.L[2]
	made(t, pairs(columns("a", a), columns("b c", b, c)))(keyed.Key(v, "a"))
	made(t, pairs(columns("b", b), columns("a c", a, c)))(keyed.Key(v, "b"))
	made(t, pairs(columns("a b", a, b), columns("c", c)))(keyed.Key(v, "a", "b"))
	made(t, pairs(columns("c a", c, a), columns("b", b)))(keyed.Key(v, "c", "a"))
	made(t, pairs(columns("b a", b, a), columns("c", c)))(keyed.Key(v, "b", "a"))
	mixed, nested := list(one(1), symbol("a"), dec(1)), list(ints(1), list(), ints())
	made(t, pairs(columns("a", mixed), columns("b", nested)))(keyed.Key(columns("a b", mixed, nested), "a"))
	made(t, pairs(columns("b", nested), columns("a", mixed)))(keyed.Key(columns("a b", mixed, nested), "b"))
	made(t, pairs(columns("a", ints()), columns("b", list())))(keyed.Key(columns("b a", list(), ints()), "a"))
	made(t, pairs(columns("b", list()), columns("a", ints())))(keyed.Key(columns("b a", list(), ints()), "b"))
	most := wide("c", api.MaxColumns)
	last := len(most.S) - 1
	made(t, pairs(api.V{T: api.KTable, S: most.S[:last], L: most.L[:last]}, api.V{T: api.KTable, S: most.S[last:], L: most.L[last:]}))(keyed.Key(most, most.S[:last]...))
}

// TestKeyAlike: P12.1: keys are the same, if all columns have what matches.
func TestKeyAlike(t *testing.T) {
	never := ints(0, 0)
	for _, alike := range []api.V{
		ints(1, 1), ints(null, null), symbols("", ""), symbols("a", "a"), bools(0, 0), times(7, 7), decs(-1, -1),
		list(ints(1, 2), ints(1, 2)), list(list(), list()), list(lambda("{x}"), lambda("{x}")), list(small(), small()), list(list(one(1), symbol("a")), list(one(1), symbol("a"))),
	} {
		refused(t, api.ErrKey)(keyed.Key(columns("a b", alike, never), "a"))
		refused(t, api.ErrKey)(keyed.Key(columns("a b c", never, alike, ints(1, 2)), "b", "a"))
		v := columns("a b c", alike, ints(1, 2), never)
		made(t, pairs(columns("a b", alike, v.L[1]), columns("c", never)))(keyed.Key(v, "a", "b"))
		wantUnique(t, pairs(columns("a", alike), columns("b", ints(1, 2))), false)
		wantUnique(t, pairs(columns("b a", ints(1, 2), alike), columns("c", never)), true)
	}
	for _, unlike := range []api.V{
		ints(1, 2), ints(0, null), symbols("a", "A"), symbols("", "a"), bools(0, 1), list(ints(1), one(1)), list(ints(), symbols()), list(list(), ints()), list(one(1), dec(1)), list(one(1), at(1)), list(one(1), truth(1)),
		list(symbol("a"), symbols("a")), list(ints(1, 2), ints(2, 1)), list(ints(1), ints(1, 1)), list(one(0), one(null), symbol("")), list(lambda("{x}"), symbol("{x}")),
	} {
		wantUnique(t, pairs(columns("a", unlike), columns("b", unlike)), true)
		made(t, pairs(columns("a", unlike), columns("b", unlike)))(keyed.Key(columns("b a", unlike, unlike), "a"))
	}
	for _, crossed := range [][2]api.V{
		{symbols("a", "ab"), symbols("bc", "c")}, {symbols("", "a"), symbols("a", "")}, {ints(1, 2), ints(2, 1)},
		{list(ints(1), ints(1, 2)), list(ints(2, 3), ints(3))}, {list(list(), list(ints())), list(list(ints()), list())},
	} {
		wantUnique(t, pairs(columns("a b", crossed[0], crossed[1]), columns("c", bools(0, 0))), true)
	}
}

// TestKeyErrors: P12.1: the errors, and which comes first.
func TestKeyErrors(t *testing.T) {
	v := columns("a b c", ints(1, 1), symbols("x", "y"), ints(5, 5))
	for _, x := range append(noKeyed(), small()) {
		if x.T != api.KTable {
			refused(t, api.ErrType)(keyed.Key(x))
			refused(t, api.ErrType)(keyed.Key(x, "a", "a"))
			refused(t, api.ErrType)(keyed.Key(x, "z", ""))
		}
	}
	refused(t, api.ErrColumn)(keyed.Key(v))
	refused(t, api.ErrColumn)(keyed.Key(v, []string{}...))
	for _, name := range []string{"z", "", "A", "a ", "a\x00", strings.Repeat("a", 1000)} {
		refused(t, api.ErrColumn)(keyed.Key(v, name))
		refused(t, api.ErrColumn)(keyed.Key(v, "a", "a", name))
		refused(t, api.ErrColumn)(keyed.Key(v, "a", "b", "c", name))
	}
	refused(t, api.ErrSchema)(keyed.Key(v, "a", "a"))
	refused(t, api.ErrSchema)(keyed.Key(v, "b", "c", "b"))
	refused(t, api.ErrSchema)(keyed.Key(v, "a", "b", "c", "a"))
	refused(t, api.ErrSchema)(keyed.Key(columns("a", ints(1)), "a", "a"))
	refused(t, api.ErrColumn)(keyed.Key(v, "a", "b", "c"))
	refused(t, api.ErrColumn)(keyed.Key(columns("a", ints(1, 1)), "a"))
	refused(t, api.ErrColumn)(keyed.Key(columns("a b", ints(1, 1), ints(1, 1)), "b", "a"))
	refused(t, api.ErrKey)(keyed.Key(v, "a"))
	refused(t, api.ErrKey)(keyed.Key(v, "c", "a"))
	tooDeep := list(deep(api.MaxDepth-2), ints())
	refused(t, api.ErrMany)(keyed.Key(columns("a b", ints(1, 2), tooDeep), "a"))
	refused(t, api.ErrMany)(keyed.Key(columns("a b", ints(1, 2), tooDeep), "b"))
	refused(t, api.ErrKey)(keyed.Key(columns("a b", ints(1, 1), tooDeep), "a"))
	just := list(deep(api.MaxDepth-3), ints())
	made(t, pairs(columns("a", ints(1, 2)), columns("b", just)))(keyed.Key(columns("a b", ints(1, 2), just), "a"))
	made(t, pairs(columns("b", just), columns("a", ints(1, 1))))(keyed.Key(columns("a b", ints(1, 1), just), "b"))
}

// TestUnkey: P12.1, with Names.
func TestUnkey(t *testing.T) {
	made(t, columns("a b", ints(1, 2), symbols("x", "y")))(keyed.Unkey(small()))
	wantNames(t, small(), "a", "b")
	k := pairs(columns("c a", ints(1, 1), list(ints(), one(1))), columns("d b", decs(1, 2), bools(0, 1)))
	made(t, columns("c a d b", k.L[0].L[0], k.L[0].L[1], k.L[1].L[0], k.L[1].L[1]))(keyed.Unkey(k))
	wantNames(t, k, "c a", "d b")
	made(t, columns("a b", ints(1, 1), ints(3, 4)))(keyed.Unkey(pairs(columns("a", ints(1, 1)), columns("b", ints(3, 4)))))
	made(t, columns("a b", list(), times()))(keyed.Unkey(pairs(columns("a", list()), columns("b", times()))))
	made(t, columns("a b", ints(1), list(deep(api.MaxDepth-3))))(keyed.Unkey(pairs(columns("a", ints(1)), columns("b", list(deep(api.MaxDepth-3))))))
	all := wide("c", api.MaxColumns)
	for _, n := range []int{1, 30, api.MaxColumns - 1} {
		k := pairs(api.V{T: api.KTable, S: all.S[:n], L: all.L[:n]}, api.V{T: api.KTable, S: all.S[n:], L: all.L[n:]})
		made(t, all)(keyed.Unkey(k))
		wantNames(t, k, strings.Join(all.S[:n], " "), strings.Join(all.S[n:], " "))
	}
}

// TestUnique: P12.1.
func TestUnique(t *testing.T) {
	wantUnique(t, small(), true)
	wantUnique(t, pairs(columns("a", ints()), columns("b", ints())), true)
	wantUnique(t, pairs(columns("a", ints(1, 2, 1)), columns("b", ints(1, 2, 3))), false)
	wantUnique(t, pairs(columns("a", ints(1, 2, 3)), columns("b", ints(1, 1, 1))), true)
	wantUnique(t, pairs(columns("a c", ints(1, 1, 2), ints(1, 2, 1)), columns("b", ints(1, 1, 1))), true)
	wantUnique(t, pairs(columns("a c", ints(1, 1, 2, 1), ints(1, 2, 1, 2)), columns("b", ints(1, 1, 1, 1))), false)
	n := til(api.MaxCount)
	wantUnique(t, pairs(columns("a", n), columns("b", n)), true)
	m := til(api.MaxCount)
	m.N[api.MaxCount-1] = 0
	wantUnique(t, pairs(columns("a", m), columns("b", n)), false)
	wantUnique(t, pairs(columns("a b", m, n), columns("c", m)), true)
}

// TestNoKeyed: of anything but a keyed table ErrType, of one with names that are not unlike, or too many, ErrSchema, whatever else is wrong.
func TestNoKeyed(t *testing.T) {
	wrong := func(k api.V, want api.Errno) {
		for name, call := range calls() {
			if name == "Key" {
				continue
			}
			for _, x := range []api.V{one(1), small(), nothing(), k, columns("a", ints(1))} {
				for _, l := range [][]api.V{nil, {one(1)}, {nothing(), small()}, {k, k, k}} {
					got, e := call(handed{k: k, x: x, l: l})
					wants(t, got, e, api.V{}, want, name, k, x)
				}
			}
		}
	}
	for _, k := range noKeyed() {
		wrong(k, api.ErrType)
	}
	for _, k := range noSchemas() {
		wrong(k, api.ErrSchema)
	}
}
