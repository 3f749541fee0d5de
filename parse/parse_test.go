package parse_test

import (
	"fmt"
	"strconv"
	"strings"
	"testing"

	"quiver/api"
	"quiver/lex"
	"quiver/parse"
	"quiver/text"
	"quiver/value"
)

// draws is a row of numbers that looks random, and is the same each time.
func draws(seed uint64) func(below int) int {
	return func(below int) int {
		seed = seed*6364136223846793005 + 1442695040888963407
		return int(seed>>33) % below
	}
}

func is[K comparable](t *testing.T, what string, got, want K) {
	t.Helper()
	if got != want {
		t.Fatalf("%.300s: %.900s, not %.900s", what, fmt.Sprint(got), fmt.Sprint(want))
	}
}

// told is a tree as the chapter's examples write it; unlike trees are told unlike. With at, each node has its place behind it.
func told(n api.Node, at bool) string {
	kinds := []string{"?", "", "", "List", "", "Derived", "Monad", "Dyad", "Apply", "Assign", "Lambda", "Table", "Nil"}
	var parts []string
	for i, x := range n.L {
		s := told(x, at)
		if n.Kind == api.NodeTable {
			s = strconv.Quote(n.S[i]) + ": " + s
		}
		parts = append(parts, s)
	}
	head, inner := kinds[n.Kind], strings.Join(parts, ", ")
	switch n.Kind {
	case api.NodeValue:
		head = text.Show(n.V)
	case api.NodeName, api.NodeVerb:
		head = n.Text
	case api.NodeDerived, api.NodeAssign:
		inner = n.Text + ", " + inner
	case api.NodeLambda:
		inner = n.Text + " " + strings.Join(n.S, " ") + ": " + inner
	}
	if at {
		head += "@" + strconv.Itoa(n.At)
	}
	if inner != "" || n.Kind == api.NodeList {
		head += "(" + inner + ")"
	}
	return head
}

// formed holds that a tree has the fields that its kind has, and no other ones.
func formed(t *testing.T, s string, n api.Node) {
	t.Helper()
	texts := n.Kind == api.NodeName || n.Kind == api.NodeVerb || n.Kind == api.NodeDerived || n.Kind == api.NodeAssign || n.Kind == api.NodeLambda
	is(t, s+": a text", n.Text != "", texts)
	is(t, s+": no value", n.Kind != api.NodeValue && !value.Match(n.V, api.V{}), false)
	is(t, s+": a value", value.Check(n.V), api.OK)
	is(t, s+": no names", n.Kind != api.NodeLambda && n.Kind != api.NodeTable && len(n.S) > 0, false)
	least := []int{-1, 0, 0, 0, 0, 1, 2, 3, 1, 1, 1, 1, 0}
	most := []int{-1, 0, 0, 1 << 20, 0, 1, 2, 3, 1 << 20, 1, 1 << 20, 1 << 20, 0}
	if n.Kind < 1 || n.Kind > 12 || len(n.L) < least[n.Kind] || len(n.L) > most[n.Kind] || n.Kind == api.NodeList && len(n.L) == 1 {
		t.Fatalf("%.300s: %d parts of kind %d", s, len(n.L), n.Kind)
	}
	is(t, s+": names of columns", n.Kind == api.NodeTable && len(n.S) != len(n.L), false)
	for _, x := range n.L {
		formed(t, s, x)
	}
}

// trees are those of s, which is right.
func trees(t *testing.T, s string) []api.Node {
	t.Helper()
	l, e, at := parse.Parse(s)
	is(t, s+": error", e, api.OK)
	is(t, s+": place", at, 0)
	for _, n := range l {
		formed(t, s, n)
	}
	return l
}

// tree is that of s, which is right, and has no more.
func tree(t *testing.T, s string) api.Node {
	t.Helper()
	l := trees(t, s)
	is(t, s+": trees", len(l), 1)
	return l[0]
}

// refused holds that s has an error, at a place, and that nothing else is told.
func refused(t *testing.T, s string, want api.Errno, place int) {
	t.Helper()
	l, e, at := parse.Parse(s)
	is(t, s+": error", e, want)
	is(t, s+": place", at, place)
	is(t, s+": no trees", len(l), 0)
}

// tokens are those of s, which is right.
func tokens(t *testing.T, s string) []api.Token {
	t.Helper()
	l, e, _ := lex.Lex(s)
	is(t, s+": tokens", e, api.OK)
	return l
}

// toldAll is trees as told tells them, with a ¦ between two.
func toldAll(l []api.Node, at bool) string {
	parts := make([]string, len(l))
	for i, n := range l {
		parts[i] = told(n, at)
	}
	return strings.Join(parts, " ¦ ")
}

func allTold(t *testing.T, at bool, cases [][2]string) {
	t.Helper()
	for _, c := range cases {
		is(t, c[0], toldAll(trees(t, c[0]), at), c[1])
	}
}

// TestTerms: P15.1: nouns and verbs behind each other, from the right to the left.
func TestTerms(t *testing.T) {
	allTold(t, false, [][2]string{
		{"a", "a"}, {"1 2", "1 2"}, {"`a`b", "`a`b"}, {"()i", "()i"}, {"101b", "101b"}, {"-1", "-1"}, {"sum", "sum"}, {"select", "select"},
		{"a+b", "Dyad(+, a, b)"}, {"a+b*c", "Dyad(+, a, Dyad(*, b, c))"}, {"a*b+c", "Dyad(*, a, Dyad(+, b, c))"}, {"(a*b)+c", "Dyad(+, Dyad(*, a, b), c)"}, {"1 2+3", "Dyad(+, 1 2, 3)"},
		{"f g x", "Apply(f, Apply(g, x))"}, {"f x", "Apply(f, x)"}, {"f x+y", "Apply(f, Dyad(+, x, y))"}, {"x+f y", "Dyad(+, x, Apply(f, y))"}, {"f 1 2", "Apply(f, 1 2)"}, {"1 f", "Apply(1, f)"}, {"`a `b", "Apply(`a, `b)"}, {"1 `a 2", "Apply(1, Apply(`a, 2))"}, {"{x}1", "Apply(Lambda({x} : x), 1)"}, {"(1;2)0", "Apply(List(1, 2), 0)"}, {"([]a:1)0", "Apply(Table(\"a\": 1), 0)"}, {"()()", "Apply(List(), List())"},
		{"- x", "Monad(-, x)"}, {"-x", "Monad(-, x)"}, {"- -x", "Monad(-, Monad(-, x))"}, {"a--b", "Dyad(-, a, Monad(-, b))"}, {"a-+*b", "Dyad(-, a, Monad(+, Monad(*, b)))"}, {"-a+b", "Monad(-, Dyad(+, a, b))"}, {"a+-b*c", "Dyad(+, a, Monad(-, Dyad(*, b, c)))"}, {"a b+c", "Apply(a, Dyad(+, b, c))"}, {"a b c-d", "Apply(a, Apply(b, Dyad(-, c, d)))"}, {"- 1", "Monad(-, 1)"}, {"- -1", "Monad(-, -1)"}, {"a+b c", "Dyad(+, a, Apply(b, c))"},
		{"f-x", "Dyad(-, f, x)"}, {"f -1", "Apply(f, -1)"}, {"f - 1", "Dyad(-, f, 1)"}, {"f-1", "Dyad(-, f, 1)"},
		{"x mod 3", "Dyad(mod, x, 3)"}, {"mod x", "Monad(mod, x)"}, {"x mod mod y", "Dyad(mod, x, Monad(mod, y))"}, {"x mod-y", "Dyad(mod, x, Monad(-, y))"}, {"-mod x", "Monad(-, Monad(mod, x))"}, {"x in y within z", "Dyad(in, x, Dyad(within, y, z))"}, {"modx", "modx"}, {"Mod", "Mod"}, {"mo d", "Apply(mo, d)"}, {"mod1 x", "Apply(mod1, x)"},
	})
	for _, v := range strings.Split(api.Verbs, "") {
		is(t, v, told(tree(t, "x "+v+" y"), false), "Dyad("+v+", x, y)")
		is(t, v, told(tree(t, v+" y"), false), "Monad("+v+", y)")
	}
	words := strings.Fields("mod div in within xasc xdesc xkey union except inter cut bin")
	is(t, "infix words", strings.Join(words, " "), strings.Trim(api.Infix, " "))
	for _, w := range words {
		is(t, w, told(tree(t, "x "+w+" y"), false), "Dyad("+w+", x, y)")
		is(t, w, tree(t, "("+w+")").Kind, api.NodeVerb)
		refused(t, w, api.ErrParse, len(w))
	}
}

// TestAdverbs: P15.1: what adverbs make of nouns and verbs.
func TestAdverbs(t *testing.T) {
	allTold(t, false, [][2]string{
		{"+/x", "Monad(Derived(/, +), x)"}, {"x+/y", "Dyad(Derived(/, +), x, y)"}, {"f/x", "Monad(Derived(/, f), x)"}, {"x f/ y", "Dyad(Derived(/, f), x, y)"}, {"f /x", "Monad(Derived(/, f), x)"}, {"f / x", "Monad(Derived(/, f), x)"}, {"+/'x", "Monad(Derived(', Derived(/, +)), x)"}, {"f/'\\x", "Monad(Derived(\\, Derived(', Derived(/, f))), x)"},
		{"f[1]/x", "Monad(Derived(/, Apply(f, 1)), x)"}, {"1 2/x", "Monad(Derived(/, 1 2), x)"}, {"{x}/x", "Monad(Derived(/, Lambda({x} : x)), x)"}, {"(1;2)/x", "Monad(Derived(/, List(1, 2)), x)"}, {"()/x", "Monad(Derived(/, List()), x)"}, {"([]a:1)'x", "Monad(Derived(', Table(\"a\": 1)), x)"}, {"(+)/x", "Monad(Derived(/, +), x)"}, {"(+/)/x", "Monad(Derived(/, Derived(/, +)), x)"}, {"(a+b)/x", "Monad(Derived(/, Dyad(+, a, b)), x)"}, {"(a:b)/x", "Monad(Derived(/, Assign(a, b)), x)"}, {"mod/x", "Monad(Derived(/, mod), x)"}, {"x mod/y", "Dyad(Derived(/, mod), x, y)"},
		{"f/g/x", "Monad(Derived(/, f), Monad(Derived(/, g), x))"}, {"x f/g/y", "Dyad(Derived(/, f), x, Monad(Derived(/, g), y))"}, {"x/y z", "Monad(Derived(/, x), Apply(y, z))"}, {"a b/c", "Dyad(Derived(/, b), a, c)"}, {"a b c/d", "Apply(a, Dyad(Derived(/, c), b, d))"}, {"-+/x", "Monad(-, Monad(Derived(/, +), x))"}, {"x-+/y", "Dyad(-, x, Monad(Derived(/, +), y))"}, {"+/-x", "Monad(Derived(/, +), Monad(-, x))"}, {"+/ -1", "Monad(Derived(/, +), -1)"}, {"+/-1", "Monad(Derived(/, +), -1)"}, {"a/:b", "Monad(Derived(/:, a), b)"}, {"a/:/b", "Monad(Derived(/, Derived(/:, a)), b)"},
	})
	for _, a := range []string{"'", "/", "\\", "':", "/:", "\\:"} {
		is(t, a, told(tree(t, "x+"+a+"y"), false), "Dyad(Derived("+a+", +), x, y)")
		for _, b := range []string{"'", "/", "\\", "':", "/:", "\\:"} {
			is(t, a+b, told(tree(t, "f"+a+b+"y"), false), "Monad(Derived("+b+", Derived("+a+", f)), y)")
		}
	}
}

// TestPrimaries: P15.1: parentheses, lists, tables, arguments.
func TestPrimaries(t *testing.T) {
	allTold(t, false, [][2]string{
		{"(a)", "a"}, {"((a))", "a"}, {"(1 2)", "1 2"}, {"(+)", "+"}, {"((+))", "+"}, {"(+/)", "Derived(/, +)"}, {"(f/)", "Derived(/, f)"}, {"(mod)", "mod"}, {"(mod/)", "Derived(/, mod)"}, {"(+)x", "Apply(+, x)"}, {"x(+)y", "Apply(x, Apply(+, y))"}, {"(+)[1;2]", "Apply(+, 1, 2)"}, {"(+)+(-)", "Dyad(+, +, -)"}, {"-(+)", "Monad(-, +)"}, {"(+/)[x]", "Apply(Derived(/, +), x)"}, {"f(+)", "Apply(f, +)"}, {"(- x)", "Monad(-, x)"},
		{"()", "List()"}, {"( )", "List()"}, {"(1;2)", "List(1, 2)"}, {"(1;2;3)", "List(1, 2, 3)"}, {"(+;-)", "List(+, -)"}, {"(+/;f';mod)", "List(Derived(/, +), Derived(', f), mod)"}, {"(a:1;b)", "List(Assign(a, 1), b)"}, {"(a:+;-/)", "List(Assign(a, +), Derived(/, -))"}, {"((1;2);())", "List(List(1, 2), List())"}, {"(1;2+3)", "List(1, Dyad(+, 2, 3))"},
		{"f[]", "Apply(f)"}, {"f[ ]", "Apply(f)"}, {"f[1]", "Apply(f, 1)"}, {"f [1]", "Apply(f, 1)"}, {"f[1;2]", "Apply(f, 1, 2)"}, {"f[;1]", "Apply(f, Nil, 1)"}, {"f[1;]", "Apply(f, 1, Nil)"}, {"f[;]", "Apply(f, Nil, Nil)"}, {"f[;;]", "Apply(f, Nil, Nil, Nil)"}, {"f[+]", "Apply(f, +)"}, {"f[+/;x]", "Apply(f, Derived(/, +), x)"}, {"f[mod;]", "Apply(f, mod, Nil)"}, {"f[a:1]", "Apply(f, Assign(a, 1))"}, {"f[1][2]", "Apply(Apply(f, 1), 2)"}, {"f[][]", "Apply(Apply(f))"}, {"f[1]x", "Apply(Apply(f, 1), x)"}, {"f[1]+x", "Dyad(+, Apply(f, 1), x)"}, {"f x[1]", "Apply(f, Apply(x, 1))"}, {"f[g[x]]", "Apply(f, Apply(g, x))"}, {"f[(1;2)]", "Apply(f, List(1, 2))"},
		{"1 2[0]", "Apply(1 2, 0)"}, {"`a[1]", "Apply(`a, 1)"}, {"()i[0]", "Apply(()i, 0)"}, {"()[1]", "Apply(List(), 1)"}, {"(1;2)[0]", "Apply(List(1, 2), 0)"}, {"{x}[1]", "Apply(Lambda({x} : x), 1)"}, {"([]a:1)[0]", "Apply(Table(\"a\": 1), 0)"}, {"(a)[1]", "Apply(a, 1)"}, {"(a+b)[1]", "Apply(Dyad(+, a, b), 1)"}, {"(f x)[1]", "Apply(Apply(f, x), 1)"},
		{"([]a:1)", "Table(\"a\": 1)"}, {"([] a:1;b:2)", "Table(\"a\": 1, \"b\": 2)"}, {"( [ ] a : 1 )", "Table(\"a\": 1)"}, {"([]mod:1)", "Table(\"mod\": 1)"}, {"([]\"x y\":1;\"\":2)", "Table(\"x y\": 1, \"\": 2)"}, {"([]\"a\":1)", "Table(\"a\": 1)"}, {"([]\"\\x00\\x22\":1)", "Table(\"\\x00\\\"\": 1)"}, {"([]a:b:1)", "Table(\"a\": Assign(b, 1))"}, {"([]a:b:+)", "Table(\"a\": Assign(b, +))"}, {"([]a:(+))", "Table(\"a\": +)"}, {"([]a:1;a:2)", "Table(\"a\": 1, \"a\": 2)"}, {"([]a:([]b:1))", "Table(\"a\": Table(\"b\": 1))"}, {"([]a:f x;b:- y)", "Table(\"a\": Apply(f, x), \"b\": Monad(-, y))"},
	})
}

// TestAssigns: P15.1: a name and :, and what stands behind.
func TestAssigns(t *testing.T) {
	allTold(t, false, [][2]string{
		{"a:1", "Assign(a, 1)"}, {"a : 1", "Assign(a, 1)"}, {"a:b:1", "Assign(a, Assign(b, 1))"}, {"1+a:2", "Dyad(+, 1, Assign(a, 2))"}, {"1+a:2+b", "Dyad(+, 1, Assign(a, Dyad(+, 2, b)))"}, {"f a:2", "Apply(f, Assign(a, 2))"}, {"-a:2", "Monad(-, Assign(a, 2))"}, {"+/a:2", "Monad(Derived(/, +), Assign(a, 2))"}, {"a:+", "Assign(a, +)"}, {"a:+/", "Assign(a, Derived(/, +))"}, {"a:mod", "Assign(a, mod)"}, {"a:f/", "Assign(a, Derived(/, f))"}, {"a:(+)", "Assign(a, +)"}, {"a:- b", "Assign(a, Monad(-, b))"}, {"a:-b", "Assign(a, Monad(-, b))"}, {"a:-1", "Assign(a, -1)"}, {"(a:1)+2", "Dyad(+, Assign(a, 1), 2)"}, {"(a:1)b", "Apply(Assign(a, 1), b)"}, {"1+a:+", "Dyad(+, 1, Assign(a, +))"}, {"a:()", "Assign(a, List())"}, {"a:(1;2)", "Assign(a, List(1, 2))"}, {"f[1]a:2", "Apply(Apply(f, 1), Assign(a, 2))"}, {"{a:x}", "Lambda({a:x} : Assign(a, x))"}, {"a:1;a:2", "Assign(a, 1) ¦ Assign(a, 2)"},
	})
}

// TestLambdas: P15.1: parameters, statements, and the bytes from { to }.
func TestLambdas(t *testing.T) {
	allTold(t, false, [][2]string{
		{"{}", "Lambda({} : Nil)"}, {"{ }", "Lambda({ } : Nil)"}, {"{x}", "Lambda({x} : x)"}, {" { x  + y } ", "Lambda({ x  + y } : Dyad(+, x, y))"}, {"{[]}", "Lambda({[]} : Nil)"}, {"{[]x}", "Lambda({[]x} : x)"}, {"{[ ]x}", "Lambda({[ ]x} : x)"}, {"{[a]a}", "Lambda({[a]a} a: a)"}, {"{[a;b]a+b}", "Lambda({[a;b]a+b} a b: Dyad(+, a, b))"}, {"{ [ a ; b ] }", "Lambda({ [ a ; b ] } a b: Nil)"}, {"{[a;a]a}", "Lambda({[a;a]a} a a: a)"}, {"{;}", "Lambda({;} : Nil, Nil)"}, {"{a;}", "Lambda({a;} : a, Nil)"}, {"{;a}", "Lambda({;a} : Nil, a)"}, {"{a;b;c}", "Lambda({a;b;c} : a, b, c)"}, {"{{x}}", "Lambda({{x}} : Lambda({x} : x))"}, {"{{x}y}1", "Apply(Lambda({{x}y} : Apply(Lambda({x} : x), y)), 1)"}, {"{([]\"}\":1)}", "Lambda({([]\"}\":1)} : Table(\"}\": 1))"}, {"{`\"{\"}", "Lambda({`\"{\"} : `\"{\")"}, {"({x})", "Lambda({x} : x)"}, {"a{x}b", "Apply(a, Apply(Lambda({x} : x), b))"}, {"{x}+{y}", "Dyad(+, Lambda({x} : x), Lambda({y} : y))"}, {"{[sum]sum}", "Lambda({[sum]sum} sum: sum)"},
	})
}

// TestStatements: P15.2: expressions or nothing, with ; between.
func TestStatements(t *testing.T) {
	allTold(t, false, [][2]string{{"", "Nil"}, {"   ", "Nil"}, {";", "Nil ¦ Nil"}, {"a;b", "a ¦ b"}, {"a;", "a ¦ Nil"}, {";a", "Nil ¦ a"}, {";;", "Nil ¦ Nil ¦ Nil"}, {"a ; b+c ;", "a ¦ Dyad(+, b, c) ¦ Nil"}, {"(1;2);;x", "List(1, 2) ¦ Nil ¦ x"}, {"a:1;+/a", "Assign(a, 1) ¦ Monad(Derived(/, +), a)"}})
}

// TestPlaces: section 15.1: At.
func TestPlaces(t *testing.T) {
	allTold(t, true, [][2]string{
		{"a", "a@0"}, {"  a", "a@2"}, {" 1 2", "1 2@1"}, {"(a)", "a@0"}, {" ( (a) )", "a@1"}, {"(+)", "+@0"}, {"(+/)", "Derived@0(/, +@1)"},
		{"a+b*c", "Dyad@0(+@1, a@0, Dyad@2(*@3, b@2, c@4))"}, {"(a+b)*c", "Dyad@0(*@5, Dyad@0(+@2, a@1, b@3), c@6)"}, {"c*(a+b)", "Dyad@0(*@1, c@0, Dyad@2(+@4, a@3, b@5))"}, {" x mod y", "Dyad@1(mod@3, x@1, y@7)"},
		{"f g x", "Apply@0(f@0, Apply@2(g@2, x@4))"}, {"(f g)x", "Apply@0(Apply@0(f@1, g@3), x@5)"}, {" f[x;y]", "Apply@1(f@1, x@3, y@5)"}, {"(f)[x]", "Apply@0(f@0, x@4)"}, {"f[x][y]", "Apply@0(Apply@0(f@0, x@2), y@5)"}, {"g f[x]", "Apply@0(g@0, Apply@2(f@2, x@4))"}, {"f[;1;]", "Apply@0(f@0, Nil@2, 1@3, Nil@5)"}, {"f[ ; ]", "Apply@0(f@0, Nil@3, Nil@5)"},
		{" - x", "Monad@1(-@1, x@3)"}, {"a - - x", "Dyad@0(-@2, a@0, Monad@4(-@4, x@6))"}, {" +/x", "Monad@1(Derived@1(/, +@1), x@3)"}, {"x f/ y", "Dyad@0(Derived@2(/, f@2), x@0, y@5)"}, {"(f)/'y", "Monad@0(Derived@0(', Derived@0(/, f@0)), y@5)"}, {"(- x)", "Monad@0(-@1, x@3)"},
		{" ()", "List@1()"}, {" (1;(2;3))", "List@1(1@2, List@4(2@5, 3@7))"}, {"((1;2))", "List@0(1@2, 2@4)"}, {" a:b:1", "Assign@1(a, Assign@3(b, 1@5))"}, {"(a:1)", "Assign@0(a, 1@3)"}, {"1+a:2", "Dyad@0(+@1, 1@0, Assign@2(a, 2@4))"},
		{" {[a]a;}", "Lambda@1({[a]a;} a: a@5, Nil@7)"}, {"({x})", "Lambda@0({x} : x@2)"}, {"{}", "Lambda@0({} : Nil@1)"}, {"{[] }", "Lambda@0({[] } : Nil@4)"}, {" ([]a:1;b:(2))", "Table@1(\"a\": 1@6, \"b\": 2@10)"}, {"(([]a:1))", "Table@0(\"a\": 1@6)"},
		{"", "Nil@0"}, {"  ", "Nil@2"}, {" ; ", "Nil@1 ¦ Nil@3"}, {"a; ;b", "a@0 ¦ Nil@3 ¦ b@4"}, {"a;", "a@0 ¦ Nil@2"}, {"a;  ", "a@0 ¦ Nil@4"},
	})
}

// TestRefused: P15.2: the first token that fits nothing that could stand there, or the end.
func TestRefused(t *testing.T) {
	for s, place := range map[string]int{
		// verbs without an operand
		"+": 1, "+ ": 2, "1+": 2, "1+ ": 3, "1+;2": 2, "+;": 1, "- -": 3, "a mod": 5, "+/": 2, "f/": 2, "f/;": 2, "x f/": 4, "{+}": 2, "{x+}": 3, "{+;x}": 2, "(1+)": 3, "(- -)": 4, "(1 - +)": 6, "(1;- +)": 6, "f[1+]": 4, "f[- -]": 5, "a:1+": 4, "a:- +": 5, "([]a:+)": 6, "([]a:+/)": 7, "([]a:mod)": 8, "([]a:+;b:1)": 6, "([]a:1+)": 7, "([]a:1;b:-)": 10, "f g/": 4, "(f g/)": 5,
		// what a verb, an adverb and an assigned name have behind them
		"+[1]": 1, "mod[1]": 3, "+/[1]": 2, "f/[1]": 2, "f[1]/[1]": 5, "(+[1])": 2, "a/:1:2": 4, "1:2": 1, "(a):1": 3, "f[1]:2": 4, "a+:1": 2, "mod:1": 3, "+:1": 1, "a::1": 1, "a: :1": 3, "a:": 2, "a: ": 3, "a:;1": 2, "a:)": 2, "(a:)": 3, "f[a:]": 4, "{a:}": 3, "a:b:": 4, "a:\"b\"": 2, "a:/": 2, "a:[": 2, "x y:": 4, "::": 0, "a ::": 2, ":": 0, ":a": 0, ";:": 1,
		// what begins no term
		"/x": 0, "'": 0, "(/)": 1, "+ +/ '[": 6, "\"a\"": 0, "a\"b\"": 1, "1+\"a\"": 2, "(\"a\")": 1, "f[\"a\"]": 2, "[": 0, "[1]": 0, "a;[": 2, "a+[": 2, ")": 0, "]": 0, "}": 0, "a)": 1, "a b)": 3, "a]": 1, "a}": 1, "a;)": 2, ";}": 1, "1+)": 2,
		// parentheses and lists
		"(": 1, "( ": 2, "(1": 2, "(1 ": 3, "(1]": 2, "(1}": 2, "(]": 1, "(}": 1, "(;": 1, "(;1)": 1, "(1;)": 3, "(1;;2)": 3, "(1;": 3, "(1;2": 4, "((1)": 4, "(1;2]": 4, "(a b": 4, "()(": 3, "(:": 1,
		// arguments
		"f[": 2, "f[1": 3, "f[1;": 4, "f[)": 2, "f[1)": 3, "f[1;}": 4, "f[;": 3, "f[[": 2, "f[:": 2, "f[1:": 3, "f[\"a\":1]": 2,
		// tables
		"([": 2, "([a": 2, "([a]b:1)": 2, "([]": 3, "([])": 3, "([];": 3, "([]a": 4, "([]a)": 4, "([]a;b:1)": 4, "([]a:": 5, "([]a:)": 5, "([]a:1": 6, "([]a:1;": 7, "([]a:1;)": 7, "([]a:1]": 6, "([]1:2)": 3, "([]`a:2)": 3, "([]a b:1)": 5, "([]\"a\")": 6, "([]\"a\" 1)": 7, "([]a::1)": 4, "([]a:;b:1)": 5, "([]+:1)": 3, "([](a):1)": 3, "([]a:1 b:2;3)": 11, "([]a:\"b\")": 5, "([]a+1)": 4, "((": 2, "([][": 3,
		// lambdas
		"{": 1, "{x": 2, "{x;": 3, "{x)": 2, "{x]": 2, "{[": 2, "{[a": 3, "{[a;": 4, "{[a;]a}": 4, "{[;a]a}": 2, "{[a b]a}": 4, "{[1]a}": 2, "{[\"a\"]a}": 2, "{[a:1]a}": 3, "{[a)": 3, "{[+]a}": 2, "{[mod]1}": 2, "{[a;mod]1}": 4, "{[[": 2, "{[]": 3, "{[a]": 4, "{[a][b]}": 4, "{x[": 3, "{;[": 2, "{]": 1, "{x}}": 3, "{(": 2, "{:": 1,
	} {
		refused(t, s, api.ErrParse, place)
		refused(t, " ;"+s, api.ErrParse, place+2)
		if place < len(s) && s[place] != ' ' {
			refused(t, s+" (1 \"a\"", api.ErrParse, place)
		}
	}
}

// TestLexed: P15.2: an error of lex, and its place, comes ahead of all others.
func TestLexed(t *testing.T) {
	refused(t, "a)1x", api.ErrNumber, 2)
	refused(t, ") 1.5 2", api.ErrMixed, 6)
	refused(t, strings.Repeat("(", 30)+"\"", api.ErrString, 30)
	refused(t, "a \x01", api.ErrLex, 2)
	refused(t, "a"+strings.Repeat(" ", api.MaxText), api.ErrLong, 0)
	refused(t, strings.Repeat("+", api.MaxTokens+1), api.ErrMany, api.MaxTokens)
	refused(t, strings.Repeat("+", api.MaxTokens), api.ErrParse, api.MaxTokens)
	refused(t, "`"+strings.Repeat("s", api.MaxSym+1), api.ErrLong, 0)
	is(t, "of the greatest length", told(tree(t, "a"+strings.Repeat(" ", api.MaxText-1)), true), "a@0")
}

// TestNest: P15.2: MaxNest brackets may be open, and no more.
func TestNest(t *testing.T) {
	pairs := [][2]string{{"(", ")"}, {"f[", "]"}, {"{", "}"}, {"([]a:", ")"}, {"{[a]", "}"}, {"(1;", ")"}, {"+/(", ")"}}
	draw := draws(24)
	for i := range 300 {
		begin, end := "", ""
		for range api.MaxNest {
			p := pairs[draw(len(pairs))]
			if i < len(pairs) {
				p = pairs[i]
			}
			begin, end = begin+p[0], p[1]+end
		}
		if strings.HasSuffix(begin, "([]a:") || strings.HasSuffix(begin, "{[a]") {
			// the [ here would be one more
			begin = begin[:strings.LastIndex(begin, "[")]
			refused(t, begin+"]", api.ErrParse, len(begin))
			refused(t, begin+"[]", api.ErrNest, len(begin))
			continue
		}
		trees(t, begin+"x"+end)
		trees(t, begin+"x"+end+";"+begin+"1"+end)
		for _, s := range []string{"(", "{", "x[", "()", "{}", "x[]", "x (", "-(", "x:("} {
			at := len(begin) + strings.IndexAny(s, "([{")
			refused(t, begin+s+end, api.ErrNest, at)
			refused(t, begin+s+"\x20)]}", api.ErrNest, at)
			refused(t, "x;"+begin+s, api.ErrNest, at+2)
		}
		for _, s := range []string{"+[", "x/[", "\"a\"(", "+\"a\"[", "x:["} {
			at := len(begin) + strings.IndexAny(s, "[\"")
			refused(t, begin+s+end, api.ErrParse, at)
		}
		refused(t, begin, api.ErrParse, len(begin))
		refused(t, ")"+begin+"(", api.ErrParse, 0)
	}
	refused(t, strings.Repeat("(", api.MaxNest)+"[", api.ErrNest, api.MaxNest)
	refused(t, strings.Repeat("(", api.MaxNest-1)+"{[", api.ErrNest, api.MaxNest)
	refused(t, strings.Repeat("(", api.MaxNest-1)+"([", api.ErrNest, api.MaxNest)
	refused(t, strings.Repeat("(", api.MaxNest-2)+"([]1", api.ErrParse, api.MaxNest+1)
	refused(t, strings.Repeat("[", api.MaxNest+1), api.ErrParse, 0)
	refused(t, strings.Repeat(" (", 100), api.ErrNest, 2*api.MaxNest+1)
	beside := strings.Repeat("(1)[0]{x}([]a:1)", 100)
	is(t, "beside each other", len(trees(t, beside)), 1)
	trees(t, strings.Repeat("(", api.MaxNest-2)+beside+strings.Repeat(")", api.MaxNest-2))
}

// TestNodes: P15.2: MaxNodes in all, and no more.
func TestNodes(t *testing.T) {
	full := strings.Repeat(";", api.MaxNodes-1)
	is(t, "nothings", len(trees(t, full)), api.MaxNodes)
	refused(t, full+";", api.ErrMany, 0)
	trees(t, full+"a")
	refused(t, full+"-a", api.ErrMany, 0)
	refused(t, "f x"+full, api.ErrMany, 0)
	list := "(1" + strings.Repeat(";1", api.MaxNodes-2) + ")"
	is(t, "a list", parse.Count(tree(t, list)), api.MaxNodes)
	refused(t, list+";", api.ErrMany, 0)
	refused(t, list+"'", api.ErrParse, len(list)+1)
	refused(t, "{"+list+"}", api.ErrMany, 0)
	refused(t, "("+list+";)", api.ErrParse, len(list)+2)
	refused(t, full+";)", api.ErrParse, len(full)+1)
	refused(t, full+";"+strings.Repeat("(", api.MaxNest+1), api.ErrNest, len(full)+1+api.MaxNest)
	trees(t, "("+list+")")
	tower := strings.Repeat("-", api.MaxNodes/2-1) + "x"
	is(t, "monads in one another", parse.Depth(tree(t, tower)), api.MaxNodes/2)
	refused(t, "--"+tower, api.ErrMany, 0)
	refused(t, strings.Repeat("x ", api.MaxTokens), api.ErrMany, 0)
	refused(t, strings.Repeat("x:", api.MaxTokens/2-1)+"x", api.ErrMany, 0)
	refused(t, "x"+strings.Repeat("/", api.MaxTokens-2)+"x", api.ErrMany, 0)
	refused(t, "x"+strings.Repeat("[]", api.MaxTokens/2-1), api.ErrMany, 0)
	refused(t, strings.Repeat("x;", api.MaxTokens/2)[1:], api.ErrMany, 0)
}

// TestExamples: the chapter's examples.
func TestExamples(t *testing.T) {
	allTold(t, false, [][2]string{
		{"a+b*c", "Dyad(+, a, Dyad(*, b, c))"}, {"f g x", "Apply(f, Apply(g, x))"}, {"- x", "Monad(-, x)"}, {"x mod 3", "Dyad(mod, x, 3)"},
		{"+/x", "Monad(Derived(/, +), x)"}, {"x f/ y", "Dyad(Derived(/, f), x, y)"}, {"f[;1]", "Apply(f, Nil, 1)"},
		{"(+)", "+"}, {"a:{[p]p+1;}", "Assign(a, Lambda({[p]p+1;} p: Dyad(+, p, 1), Nil))"},
	})
	refused(t, "1+", api.ErrParse, 2)
	refused(t, "+", api.ErrParse, 1)
	is(t, "a verb", tree(t, "(+)").Kind, api.NodeVerb)
}

// TestExpr: P15.3.
func TestExpr(t *testing.T) {
	for _, c := range [][2]string{{"a+b*c", "Dyad@0(+@1, a@0, Dyad@2(*@3, b@2, c@4))"}, {" (1;{x;})", "List@1(1@2, Lambda@4({x;} : x@5, Nil@7))"}, {"(+)", "+@0"}, {"a:+", "Assign@0(a, +@2)"}, {" f[;1]", "Apply@1(f@1, Nil@3, 1@4)"}, {"([]a:1)", "Table@0(\"a\": 1@5)"}, {"- x ", "Monad@0(-@0, x@2)"}} {
		n, e, at := parse.Expr(c[0], tokens(t, c[0])...)
		is(t, c[0]+": error", e, api.OK)
		is(t, c[0]+": place", at, 0)
		is(t, c[0], told(n, true), c[1])
		formed(t, c[0], n)
	}
	no := func(what string, want api.Errno, place int, s string, l ...api.Token) {
		t.Helper()
		n, e, at := parse.Expr(s, l...)
		is(t, what+": error", e, want)
		is(t, what+": place", at, place)
		is(t, what+": nothing else", told(n, true), "?@0")
		is(t, what+": no kind", n.Kind+len(n.Text)+len(n.S)+len(n.L)+len(n.V.N)+n.V.T, 0)
	}
	no("nothing at all", api.ErrParse, 0, "")
	no("nothing at all", api.ErrParse, 0, "abc")
	for s, place := range map[string]int{"a;b": 1, ";": 0, "a;": 1, "+": 1, " + ": 2, "1+ ": 2, "+/ ": 2, "(1 ": 2, "a)": 1, "f[1;  ": 4, "a:  ": 2, "{x  ": 2, "([]  ": 3, "\"a\"": 0, "+;": 1, "(- +)": 4} {
		no(s, api.ErrParse, place, s, tokens(t, s)...)
	}
	nest := strings.Repeat("(", api.MaxNest+1)
	no("too deep", api.ErrNest, api.MaxNest, nest, tokens(t, nest)...)
	list := "(1" + strings.Repeat(";1", api.MaxNodes-2) + ")"
	n, e, _ := parse.Expr(list, tokens(t, list)...)
	is(t, "as many nodes as there may be", e, api.OK)
	is(t, "nodes", parse.Count(n), api.MaxNodes)
	no("too many", api.ErrMany, 0, "("+list+";1)", tokens(t, "("+list+";1)")...)
	no("too many, and a fault", api.ErrParse, len(list)+2, list+"'", append(tokens(t, list+"'"), api.Token{Kind: api.TokenMark, Text: ";", At: len(list) + 2})...)
}

// TestExprPart: P15.3: some of a text's tokens alone: their places are those in the text, the end is behind the last one.
func TestExprPart(t *testing.T) {
	s := "select a+b, {[p] p*2} c from t where (x;1)  ;"
	l := tokens(t, s)
	for _, c := range []struct {
		from, to int
		want     string
	}{{1, 4, "Dyad@7(+@8, a@7, b@9)"}, {1, 2, "a@7"}, {5, 14, "Apply@12(Lambda@12({[p] p*2} p: Dyad@17(*@18, p@17, 2@19)), c@22)"}, {14, 16, "Apply@24(from@24, t@29)"}, {17, 22, "List@37(x@38, 1@40)"}, {0, 4, "Apply@0(select@0, Dyad@7(+@8, a@7, b@9))"}} {
		n, e, at := parse.Expr(s, l[c.from:c.to]...)
		is(t, c.want+": error", e, api.OK)
		is(t, c.want+": place", at, 0)
		is(t, c.want, told(n, true), c.want)
	}
	for _, c := range [][3]int{{1, 3, 9}, {4, 5, 11}, {17, 21, 41}, {5, 6, 13}, {5, 9, 16}, {22, 23, 44}, {17, 23, 44}, {6, 8, 13}, {21, 22, 41}} {
		_, e, at := parse.Expr(s, l[c[0]:c[1]]...)
		is(t, s+": error", e, api.ErrParse)
		is(t, s+": place of the tokens from "+strconv.Itoa(c[0]), at, c[2])
	}
	// not all of them side by side
	n, e, _ := parse.Expr("a+(b)-c", append(tokens(t, "a+(b)-c")[:2], tokens(t, "a+(b)-c")[6:]...)...)
	is(t, "a + c", e, api.OK)
	is(t, "a + c", told(n, true), "Dyad@0(+@1, a@0, c@6)")
	n, e, _ = parse.Expr("{a+b}", append(tokens(t, "{a+b}")[:2], tokens(t, "{a+b}")[4:]...)...)
	is(t, "{a}", e, api.OK)
	is(t, "the bytes from { to }", told(n, true), "Lambda@0({a+b} : a@1)")
}
