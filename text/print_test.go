package text_test

import (
	"math"
	"strings"
	"testing"

	"quiver/api"
	"quiver/text"
	"quiver/value"
)

// TestPrint: P4.4, each line of its table, and example 1; P4.5.
func TestPrint(t *testing.T) {
	xy := table(names("a", "b"), ints(1, 2), symbols("x", "y"))
	for want, v := range map[string]api.V{
		"5": one(5), "-5": one(-5), "0N": one(api.Null), "1b": atom(api.KBool, 1), "0b": atom(api.KBool, 0), "5t": atom(api.KTime, 5), "0Nt": atom(api.KTime, api.Null), "1.5": atom(api.KDec, 15000), "-0.5": atom(api.KDec, -5000), "0Nd": atom(api.KDec, api.Null), "`": symbol(""), "`a": symbol("a"), "`\"b c\"": symbol("b c"),
		"()b": vector(api.KBool), "()i": ints(), "()s": symbols(), "()t": vector(api.KTime), "()d": vector(api.KDec),
		",1b": vector(api.KBool, 1), ",5": ints(5), ",0N": ints(api.Null), ",`": symbols(""), ",`a": symbols("a"), ",`\"1\"": symbols("1"), ",5t": vector(api.KTime, 5), ",-0.5": vector(api.KDec, -5000),
		"10b": vector(api.KBool, 1, 0), "101b": vector(api.KBool, 1, 0, 1), "0000b": vector(api.KBool, 0, 0, 0, 0), "1 2 3": ints(1, 2, 3), "1 -2 0N": ints(1, -2, api.Null), "5t 0Nt -1t": vector(api.KTime, 5, api.Null, -1), "1.5 -0.5 2.0 0Nd": vector(api.KDec, 15000, -5000, 20000, api.Null), "`a`b": symbols("a", "b"), "`a``\"b c\"": symbols("a", "", "b c"), "``": symbols("", ""), "``a`": symbols("", "a", ""), "`\"`\"`\"\\x22\"": symbols("`", `"`),
		"()": list(), ",()": list(list()), ",,1": list(ints(1)), ",1 2": list(ints(1, 2)), ",()i": list(ints()), ",10b": list(vector(api.KBool, 1, 0)), ",{x}": list(lambda("{x}")), ",``": list(symbols("", "")),
		"(1 2;`a)": list(ints(1, 2), symbol("a")), "(1;`a;())": list(one(1), symbol("a"), list()), "(,1;,1)": list(ints(1), ints(1)), "(1;2t)": list(one(1), atom(api.KTime, 2)), "(();())": list(list(), list()), "((1;`);{;})": list(list(one(1), symbol("")), lambda("{;}")),
		"(`a`b!1 2)": dict(symbols("a", "b"), ints(1, 2)), "(()!())": dict(list(), list()), "(()i!()s)": dict(ints(), symbols()), "(,1!,2)": dict(ints(1), ints(2)), "(,,1!,(1;`a))": dict(list(ints(1)), list(list(one(1), symbol("a")))), "((1;`a)!10b)": dict(list(one(1), symbol("a")), vector(api.KBool, 1, 0)), "(,1!,(,2!,3))": dict(ints(1), list(dict(ints(2), ints(3)))),
		"([]a:1 2;b:`x`y)": xy, "([]a:,1)": table(names("a"), ints(1)), "([]a:())": table(names("a"), list()), "([]a:()i;b.c:()b)": table(names("a", "b.c"), ints(), vector(api.KBool)), "([]\"b c\":,`x)": table(names("b c"), symbols("x")), "([]\"\\x22:;\":1 2)": table(names(`":;`), ints(1, 2)), "([]\"9\":,(1;`a))": table(names("9"), list(list(one(1), symbol("a")))), "([]\"_\":1 2;\".\":3 4)": table(names("_", "."), ints(1, 2), ints(3, 4)),
		"(([]a:1 2;b:`x`y)!([]c:01b))": dict(xy, table(names("c"), vector(api.KBool, 0, 1))), ",([]a:,1)": list(table(names("a"), ints(1))),
		"{}": lambda("{}"), "{x+\"}\"}": lambda(`{x+"}"}`), "{ x ; y }": lambda("{ x ; y }"), "{\x00\xff}": lambda("{\x00\xff}"),
		"::": nothing(),
	} {
		wantPrint(t, v, want)
		is(t, "the test's own", wantText(v), want)
	}
}

// TestPrintElements: P4.4: all numbers and symbols, alone and in vectors.
func TestPrintElements(t *testing.T) {
	for _, n := range oddNumbers() {
		for _, k := range numeric()[1:] {
			wantPrint(t, atom(k, n), wantNumber(k, n))
			wantPrint(t, vector(k, n), ","+wantNumber(k, n))
			wantPrint(t, vector(k, n, 3, n), wantNumber(k, n)+" "+wantNumber(k, 3)+" "+wantNumber(k, n))
		}
	}
	for _, s := range oddSymbols() {
		wantPrint(t, symbol(s), wantSymbol(s))
		wantPrint(t, symbols(s), ","+wantSymbol(s))
		wantPrint(t, symbols(s, "", s), wantSymbol(s)+"`"+wantSymbol(s))
		if s != "" {
			wantPrint(t, table(names("q", s), ints(1), symbols(s)), "([]q:,1;"+wantName(s)+":,"+wantSymbol(s)+")")
		}
	}
	for _, s := range oddSources() {
		wantPrint(t, lambda(s), s)
		wantPrint(t, list(lambda(s), lambda(s)), "("+s+";"+s+")")
		wantPrint(t, dict(list(lambda(s)), ints(1)), "(,"+s+"!,1)")
	}
}

// TestPrintNoValue: P4.4: value.Check's first error.
func TestPrintNoValue(t *testing.T) {
	long := strings.Repeat("x", api.MaxSym+1)
	for _, v := range []api.V{
		{T: 50}, {T: math.MinInt}, {T: -6}, {T: -api.KInt}, {T: -api.KSym}, {T: api.KDict}, {T: api.KTable}, {T: api.KLambda}, {T: api.KInt, S: []string{"a"}}, {T: api.KNil, N: []int64{1}},
		atom(api.KBool, 2), symbol(long), symbol("\x00"), lambda("x"), lambda("{" + strings.Repeat("x", api.MaxText) + "}"), list(one(1), one(2)), list(one(1)), list(nothing()), list(symbol(long), list()),
		ints(make([]int64, api.MaxCount+1)...), table(names("a", "a"), ints(), ints()), table(names("a", "b"), ints(), ints(1)), dict(ints(1), ints()), dict(ints(), one(1)), nest(list(), api.MaxDepth), nest(list(), 1<<16-1),
		list(lambda("{}}"), one(1), symbol("\x00")), nest(lambda("{}}"), api.MaxDepth),
	} {
		is(t, "it is none", value.Check(v) != api.OK, true)
		wantNoText(t, v, value.Check(v))
	}
}

// TestPrintLambda: P4.4: at any depth.
func TestPrintLambda(t *testing.T) {
	for _, s := range []string{"{}}", "{{}", "{}{}", `{"}`, `{"}"}}`, `{"\"}`} {
		bad := lambda(s)
		is(t, "a value", value.Check(bad), api.OK)
		for _, v := range []api.V{
			bad, list(bad), list(ints(1), lambda("{}"), bad), nest(bad, api.MaxDepth-1), table(names("a", "b"), ints(1), list(bad)), dict(list(bad), ints(1)), dict(ints(1), list(bad)), dict(table(names("a"), ints(1)), table(names("a"), list(bad))),
			list(symbols(make([]string, api.MaxCount)...), bad), list(bad, symbols(make([]string, api.MaxCount)...)),
		} {
			wantNoText(t, v, api.ErrLambda)
		}
	}
	wantPrint(t, symbol("{}}"), "`\"{}}\"")
	wantPrint(t, table(names("{"), ints(1)), `([]"{":,1)`)
}

// TestPrintLong: P4.4: a text of MaxText bytes, and of one more.
func TestPrintLong(t *testing.T) {
	ones := make([]int64, api.MaxText/2)
	for i := range ones {
		ones[i] = 1
	}
	nulls := make([]string, api.MaxCount)
	source := "{" + strings.Repeat("x", api.MaxText-2) + "}"
	empties := make([]api.V, api.MaxText/3-1)
	for i := range empties {
		empties[i] = list()
	}
	for _, v := range []api.V{
		symbols(nulls...), lambda(source), vector(api.KBool, make([]int64, api.MaxText-1)...),
		ints(append([]int64{10}, ones[1:]...)...), list(lambda(source[:1] + source[2:])), list(list(ints(1)), lambda("{"+source[7:])),
		list(append([]api.V{lambda("{xx}")}, empties[1:]...)...), table(names("ab"), symbols(nulls[8:]...)), dict(list(symbols(nulls[20:]...)), symbols("abcdefghijklm")),
	} {
		s := wantText(v)
		pad := api.MaxText - len(s)
		is(t, "nearly as long as may be", pad >= 0 && pad < 5, true)
		wantPrint(t, v, s)
	}
	for _, v := range []api.V{
		symbols(append(nulls[1:], "a")...), list(lambda(source)), vector(api.KBool, make([]int64, api.MaxText)...),
		ints(append([]int64{100}, ones[1:]...)...), ints(append([]int64{1}, ones...)...), list(symbols(nulls...)), list(list(), lambda("{"+source[5:])),
		list(symbols(nulls...), symbols(nulls...), lambda(source)), ints(make([]int64, api.MaxCount)...), dict(symbols(nulls...), symbols(nulls...)), table(names("a"), symbols(nulls...)),
	} {
		is(t, "too long", len(wantText(v)) > api.MaxText, true)
		wantNoText(t, v, api.ErrLong)
	}
}

// TestPrintJustLong: P4.4: the edge, one byte on each side of it, for each kind.
func TestPrintJustLong(t *testing.T) {
	kinds := map[string]func(api.V) api.V{
		"alone":    func(v api.V) api.V { return v },
		"a list":   func(v api.V) api.V { return list(v) },
		"the last": func(v api.V) api.V { return list(one(1), v) },
		"first":    func(v api.V) api.V { return list(v, one(1)) },
		"a column": func(v api.V) api.V { return table(names("a"), list(v)) },
		"a key":    func(v api.V) api.V { return dict(list(v), ints(1)) },
		"a value":  func(v api.V) api.V { return dict(ints(1), list(v)) },
	}
	for name, in := range kinds {
		around := len(wantText(in(lambda("{}")))) - 2
		fits := lambda("{" + strings.Repeat("x", api.MaxText-2-around) + "}")
		wantPrint(t, in(fits), wantText(in(fits)))
		is(t, name, len(wantText(in(fits))), api.MaxText)
		more := lambda("{" + strings.Repeat("x", api.MaxText-1-around) + "}")
		if around > 0 {
			wantNoText(t, in(more), api.ErrLong)
		}
	}
}

// TestShow: P4.5.
func TestShow(t *testing.T) {
	is(t, "of none", text.Show(), "")
	is(t, "of one", text.Show(one(7)), "7")
	is(t, "of one that is none", text.Show(api.V{T: 50}), "?")
	is(t, "of several", text.Show(one(7), ints(1, 2), nothing(), symbol("a b"), list()), "7 1 2 :: `\"a b\" ()")
	is(t, "with errors", text.Show(one(7), api.V{T: 50}, lambda("{}}"), symbols(append(make([]string, api.MaxCount-1), "a")...), one(8)), "7 ? ? ? 8")
	is(t, "all with errors", text.Show(api.V{T: 50}, api.V{T: 50}), "? ?")
	long := symbols(make([]string, api.MaxCount)...)
	is(t, "as long as it is", text.Show(long, long), strings.Repeat("`", api.MaxText)+" "+strings.Repeat("`", api.MaxText))
}
