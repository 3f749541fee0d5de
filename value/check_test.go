package value_test

import (
	"math"
	"slices"
	"strconv"
	"strings"
	"testing"

	"quiver/api"
	"quiver/value"
)

// many is so many numbers that are 0.
func many(n int) []int64 { return make([]int64, n) }

func lists(n int, v api.V) []api.V { return slices.Repeat([]api.V{v}, n) }

func names(n int) string {
	var l []string
	for i := range n {
		l = append(l, "c"+strconv.Itoa(i))
	}
	return strings.Join(l, " ")
}

// wide is a table of so many columns.
func wide(n int) api.V { return table(names(n), lists(n, ints(1, 2))...) }

func long() string { return strings.Repeat("x", api.MaxSym+1) }

func longLambda() api.V { return lambda("{" + strings.Repeat("x", api.MaxText-1) + "}") }

// TestCheckGood: P3.1.
func TestCheckGood(t *testing.T) {
	good := samples()
	for _, k := range numeric() {
		good = append(good, vector(k, many(api.MaxCount)...))
	}
	none := api.V{N: []int64{}, S: []string{}, L: []api.V{}}
	for _, k := range []int{api.KList, api.KBool, api.KInt, api.KSym, api.KTime, api.KDec, api.KNil} {
		none.T = k
		good = append(good, none)
	}
	good = append(good,
		symbols(make([]string, api.MaxCount)...), list(lists(api.MaxCount, list())...),
		symbol(long()[1:]), symbols("a", long()[1:]), table(long()[1:], ints(1)),
		wide(api.MaxColumns), table("a", ints(many(api.MaxCount)...)),
		lambda("{"+strings.Repeat("x", api.MaxText-2)+"}"), lambda("{{}"), lambda("{}}"), lambda("{\"}"),
		list(one(1), atom(api.KTime, 1)), list(one(1), one(1), ints(1)), list(nest(one(1), 1).L[0], list()),
		dict(symbols("a", "a"), ints(1, 1)),
		dict(table("a", ints(1)), table("a", ints(1))),
		dict(wide(api.MaxColumns), wide(api.MaxColumns)),
		nest(list(), api.MaxDepth-1), nest(ints(1), api.MaxDepth-1), nest(table("a", ints(1)), api.MaxDepth-2),
		nest(dict(table("a", list(ints(1))), table("a", ints(1))), api.MaxDepth-4),
	)
	for _, v := range good {
		is(t, told(v), value.Check(v), api.OK)
	}
}

// TestCheckKinds: P3.1: the first ErrValue.
func TestCheckKinds(t *testing.T) {
	for _, k := range []int{6, -6, 7, 97, 102, -98, -99, -100, -101, math.MinInt, math.MaxInt} {
		is(t, "no type", value.Check(api.V{T: k}), api.ErrValue)
		is(t, "no type, and too many", value.Check(api.V{T: k, N: many(api.MaxCount + 1)}), api.ErrValue)
	}
	for _, v := range samples() {
		stray := v
		stray.N = []int64{0}
		if !value.Numeric(v) {
			is(t, "N "+told(v), value.Check(stray), api.ErrValue)
		}
		stray = v
		stray.S = []string{"{}"}
		if v.T != api.KSym && v.T != -api.KSym && v.T != api.KTable && v.T != api.KLambda {
			is(t, "S "+told(v), value.Check(stray), api.ErrValue)
		}
		stray = v
		stray.L = []api.V{list()}
		if v.T != api.KList && v.T != api.KTable && v.T != api.KDict {
			is(t, "L "+told(v), value.Check(stray), api.ErrValue)
		}
	}
}

type bad struct {
	what string
	v    api.V
	want api.Errno
}

func checkBad(t *testing.T, l []bad) {
	t.Helper()
	for _, c := range l {
		is(t, c.what, value.Check(c.v), c.want)
	}
}

// TestCheckMany: P3.1: what is too much or too long, and what is asked ahead of it.
func TestCheckMany(t *testing.T) {
	over := api.MaxCount + 1
	for _, k := range numeric() {
		checkBad(t, []bad{
			{"too many", vector(k, many(over)...), api.ErrMany},
			{"too many, and a stray field", api.V{T: k, N: many(over), S: []string{"a"}}, api.ErrValue},
			{"an atom of many", api.V{T: -k, N: many(over)}, api.ErrValue},
		})
	}
	longs := slices.Repeat([]string{long()}, over)
	twos := slices.Repeat([]int64{2}, over)
	checkBad(t, []bad{
		{"symbols", symbols(make([]string, over)...), api.ErrMany},
		{"symbols, too long ones", symbols(longs...), api.ErrMany},
		{"bools that are none", vector(api.KBool, twos...), api.ErrMany},
		{"a list", list(lists(over, list())...), api.ErrMany},
		{"a list of nothing", list(lists(over, nothing())...), api.ErrMany},
		{"a list of atoms", list(lists(over, one(1))...), api.ErrMany},
		{"a list with a stray field", api.V{T: api.KList, N: []int64{1}, L: lists(over, list())}, api.ErrValue},
		{"a list of what is too long", list(lists(over, symbol(long()))...), api.ErrMany},
		{"columns", wide(api.MaxColumns + 1), api.ErrMany},
		{"columns without names", table("a", lists(api.MaxColumns+1, ints())...), api.ErrMany},
		{"names without columns", table(names(api.MaxColumns + 1)), api.ErrMany},
		{"names too long", api.V{T: api.KTable, S: longs}, api.ErrMany},
		{"columns and a stray field", api.V{T: api.KTable, N: []int64{1}, L: lists(api.MaxColumns+1, ints())}, api.ErrValue},
		{"rows", table("a b", ints(many(over)...), ints(many(over)...)), api.ErrMany},
		{"a dictionary of many parts", api.V{T: api.KDict, L: lists(over, ints())}, api.ErrValue},
		{"a lambda of many texts", api.V{T: api.KLambda, S: make([]string, over)}, api.ErrValue},
		{"an atom of many symbols", api.V{T: -api.KSym, S: make([]string, over)}, api.ErrValue},
		{"a symbol too long", symbol(long()), api.ErrLong},
		{"symbols, one too long", symbols("a", long()), api.ErrLong},
		{"a name too long", table("a "+long(), ints(1), ints(1)), api.ErrLong},
		{"a source too long", longLambda(), api.ErrLong},
		{"a source as long as no symbol", lambda("{" + long() + "}"), api.OK},
		{"too long, and a stray field", api.V{T: -api.KSym, S: []string{long()}, N: []int64{1}}, api.ErrValue},
		{"too long, and a zero", symbols("\x00", long()), api.ErrLong},
		{"an atom of two, one too long", api.V{T: -api.KSym, S: []string{"a", long()}}, api.ErrLong},
		{"a lambda of two texts, one too long", api.V{T: api.KLambda, S: []string{"{}", longLambda().S[0]}}, api.ErrLong},
		{"too long, and no braces", lambda(strings.Repeat("x", api.MaxText+1)), api.ErrLong},
		{"a name too long, and two alike", table("a a " + long()), api.ErrLong},
		{"a name too long, and no columns", table("a "+long(), one(1)), api.ErrLong},
		{"a name too long, and unlike counts", table("a "+long(), ints(), ints(1)), api.ErrLong},
	})
}

// TestCheckForm: P3.1: the second ErrValue, and example 3.
func TestCheckForm(t *testing.T) {
	two := api.V{T: api.KTable, S: []string{"a", "b"}}
	with := func(s ...string) api.V { return api.V{T: api.KTable, S: s, L: lists(len(s), ints(1))} }
	l := []bad{{"example 3", list(one(1), one(2)), api.ErrValue}}
	for _, v := range []api.V{
		vector(api.KBool, 2), vector(api.KBool, 0, 1, -1), atom(api.KBool, 2), vector(api.KBool, api.Null), atom(api.KBool, api.Null),
		{T: -api.KBool}, {T: -api.KInt}, {T: -api.KTime}, {T: -api.KDec}, {T: -api.KSym},
		{T: -api.KBool, N: many(2)}, {T: -api.KInt, N: many(2)}, {T: -api.KTime, N: many(2)}, {T: -api.KDec, N: many(2)}, {T: -api.KSym, S: []string{"a", "b"}},
		symbol("\x00"), symbol("a\x00"), symbol("\x00a"), symbols("a", "a\x00a"),
		list(one(1)), list(symbol("a"), symbol("a")), list(atom(api.KDec, 1)), list(atom(api.KBool, 1)), list(atom(api.KTime, 1)),
		list(nothing()), list(one(1), nothing()), list(nothing(), ints(1)), list(api.V{T: -api.KInt}),
		{T: api.KTable}, two, table("a b", ints(1)), table("a", ints(1), ints(1)), {T: api.KTable, L: lists(1, ints(1))},
		with("a", "a"), with("a", "b", "a"), with(""), with("a", ""), with("a\x00"),
		table("a", one(1)), table("a", nothing()), table("a", lambda("{}")), table("a", dict(ints(1), ints(1))), table("a", table("a", ints(1))), table("a b", ints(1), symbol("a")), table("a", api.V{T: 6}),
		{T: api.KDict}, {T: api.KDict, L: lists(1, ints(1))}, {T: api.KDict, L: lists(3, ints(1))},
		dict(one(1), one(1)), dict(ints(1), one(1)), dict(one(1), ints(1)), dict(nothing(), nothing()), dict(lambda("{}"), ints(1)),
		dict(table("a", ints(1)), ints(1)), dict(ints(1), table("a", ints(1))), dict(dict(ints(1), ints(1)), ints(1)), dict(list(ints(1)), dict(ints(1), ints(1))), dict(api.V{T: 6}, ints(1)),
		{T: api.KLambda}, {T: api.KLambda, S: []string{"{}", "{}"}}, lambda(""), lambda("{"), lambda("}"), lambda("}{"), lambda("{x"), lambda("x}"), lambda(" {}"), lambda("{} "),
	} {
		l = append(l, bad{told(v), v, api.ErrValue})
	}
	checkBad(t, l)
}

// TestCheckOrder: P3.1: of several errors the first.
func TestCheckOrder(t *testing.T) {
	stray := api.V{T: api.KInt, N: many(2), S: []string{"a"}}
	tooLong := symbol(long())
	checkBad(t, []bad{
		{"example 3", table("a b", ints(1), ints(1, 2)), api.ErrLength},
		{"keys and values", dict(ints(1), ints()), api.ErrLength},
		{"keys and values, lists", dict(list(ints(1), ints(2)), symbols("a")), api.ErrLength},
		{"tables", dict(table("a", ints(1)), table("a", ints(1, 2))), api.ErrLength},
		{"two names alike, and counts", table("a a", ints(1), ints(1, 2)), api.ErrValue},
		{"an atom for a column, and counts", table("a b c", ints(1), ints(1, 2), one(1)), api.ErrValue},
		{"a third part, and counts", api.V{T: api.KDict, L: []api.V{ints(), ints(1), ints()}}, api.ErrValue},
		{"counts, and what is too long", table("a b", symbols(long()), ints()), api.ErrLength},
		{"counts of what is no value", table("a b", stray, ints(1)), api.ErrLength},
		{"no value of that count", table("a b", stray, ints(1, 2)), api.ErrValue},
		{"no value, by its symbols", table("a b", api.V{T: api.KSym, S: []string{"a"}, N: many(2)}, ints(1, 2)), api.ErrLength},
		{"a table of no columns has a count", dict(table("a"), table("a", ints(1))), api.ErrValue},
		{"a table of no columns has one", dict(table("a"), table("a", ints(1, 2))), api.ErrLength},
		{"a table of unlike columns", dict(table("a b", ints(1), ints(1, 2)), table("a", ints(1))), api.ErrLength},
		{"a table of unlike columns, but the first", dict(table("a b", ints(1, 2), ints(1)), table("a", ints(1))), api.ErrLength},
		{"alike atoms that are none", list(tooLong, tooLong), api.ErrValue},
		{"one such", list(tooLong), api.ErrValue},
		{"nothing behind one", list(tooLong, nothing()), api.ErrValue},
		{"the first part's", list(tooLong, ints(many(api.MaxCount+1)...), one(1)), api.ErrLong},
		{"the first part's, turned round", list(ints(many(api.MaxCount+1)...), tooLong, one(1)), api.ErrMany},
		{"within the first part", list(list(list(tooLong, ints()), ints()), vector(api.KBool, 2)), api.ErrLong},
		{"a part's form ahead of its part", list(list(list(tooLong, ints()), nothing()), one(1)), api.ErrValue},
		{"keys ahead of values", dict(list(table("a b", ints(), ints(1))), list(table("a b", one(1), ints(1)))), api.ErrLength},
	})
}

// TestCheckDepth: P3.1: the depth, which is asked of the whole, last.
func TestCheckDepth(t *testing.T) {
	deep := nest(list(), api.MaxDepth)
	least := nest(list(), api.MaxDepth-1)
	checkBad(t, []bad{
		{"lists", deep, api.ErrMany},
		{"lists of a vector", nest(ints(1), api.MaxDepth), api.ErrMany},
		{"lists of a table", nest(table("a", ints(1)), api.MaxDepth-1), api.ErrMany},
		{"a table", table("a b", ints(1), list(nest(list(), api.MaxDepth-2))), api.ErrMany},
		{"keys", dict(list(nest(list(), api.MaxDepth-2)), ints(1)), api.ErrMany},
		{"values", dict(ints(1), list(nest(list(), api.MaxDepth-2))), api.ErrMany},
		{"values that are just so deep", dict(ints(1), list(nest(list(), api.MaxDepth-3))), api.OK},
		{"a second part", list(ints(1), least), api.ErrMany},
		{"very deep", nest(list(), 1<<16-1), api.ErrMany},
		{"what is too long, deep within", nest(list(ints(), symbol(long())), 2*api.MaxDepth), api.ErrLong},
		{"no value, very deep within", nest(nothing(), 1<<16-1), api.ErrValue},
		{"a part ahead of the depth of another", list(deep, symbol(long())), api.ErrLong},
		{"a part ahead of the depth of another, turned round", list(symbol(long()), deep), api.ErrLong},
		{"the own form ahead of the depth", list(deep, nothing()), api.ErrValue},
	})
}
