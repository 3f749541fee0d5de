package parse_test

import (
	"slices"
	"strings"
	"testing"

	"quiver/api"
	"quiver/parse"
)

// prints holds that the trees of s have this text, and that these trees are those of that text.
func prints(t *testing.T, s, want string) {
	t.Helper()
	l := trees(t, s)
	is(t, s, parse.Print(l...), want)
	is(t, s+": there and back", toldAll(trees(t, want), false), toldAll(l, false))
}

// TestPrint: P15.8: each kind of tree, and where it stands in brackets.
func TestPrint(t *testing.T) {
	for _, c := range [][2]string{
		{"", ""}, {"a", "a"}, {" a ;; b", "a;;b"}, {";", ";"}, {"(1;2);;x", "(1;2);;x"}, {"a+b;", "a + b;"},
		// values, as package text has them
		{"1  -2", "1 -2"}, {"007", "7"}, {"-0", "0"}, {"1.50", "1.5"}, {"5t 0Nt", "5t 0Nt"}, {"0b", "0b"}, {"101b", "101b"}, {"`\"a\"`b", "`a`b"}, {"`\"b c\"", "`\"b c\""}, {"`", "`"}, {"()d", "()d"}, {"(1 2)", "1 2"},
		// lists and brackets that were not needed
		{"()", "()"}, {"( 1 ; 2 )", "(1;2)"}, {"((1))", "1"}, {"(a+b)", "a + b"}, {"a+(b*c)", "a + b * c"}, {"(f)[(x)]", "f[x]"}, {"((1;2);3)", "((1;2);3)"}, {"(a:1;b+c;f x;- y)", "(a:1;b + c;f[x];- y)"},
		// verbs
		{"(+)", "(+)"}, {"(mod)", "(mod)"}, {"(+/)", "(+/)"}, {"(f/)", "(f/)"}, {"(+;-/)", "((+);(-/))"}, {"f[+]", "f[(+)]"}, {"f[+/;mod]", "f[(+/);(mod)]"}, {"a:+", "a:(+)"}, {"a:f/", "a:(f/)"}, {"(+)[1;2]", "(+)[1;2]"}, {"(+/)[x]", "(+/)[x]"}, {"(+)x", "(+)[x]"}, {"f(+)", "f[(+)]"}, {"-(+)", "- (+)"}, {"(+)-(*)", "(+) - (*)"}, {"(+/)-(*/)", "(+/) - (*/)"}, {"([]a:(+))", "([]a:(+))"}, {"{+/x}", "{+/x}"},
		// what an adverb follows
		{"+/x", "+/ x"}, {"(+)/x", "+/ x"}, {"(+/)/x", "+// x"}, {"x+/:\\:y", "x +/:\\: y"}, {"x mod/y", "x mod/ y"}, {"f/x", "f/ x"}, {"f[1]/x", "f[1]/ x"}, {"1 2/x", "(1 2)/ x"}, {"`a'x", "(`a)' x"}, {"()i/x", "(()i)/ x"}, {"()/x", "()/ x"}, {"(1;2)/x", "(1;2)/ x"}, {"{x}/x", "{x}/ x"}, {"([]a:1)/x", "([]a:1)/ x"}, {"(a+b)/x", "(a + b)/ x"}, {"(- a)/x", "(- a)/ x"}, {"(a:1)/x", "(a:1)/ x"}, {"(f x)/y", "f[x]/ y"}, {"1/2/3", "(1)/ (2)/ 3"},
		// operands
		{"- x", "- x"}, {"-x", "- x"}, {"- -1", "- -1"}, {"--x", "- - x"}, {"a-b", "a - b"}, {"1 -2-3", "1 -2 - 3"}, {"1- -2", "1 - -2"}, {"-a:1", "- a:1"}, {"1+a:2", "1 + a:2"}, {"(a+b)*c", "(a + b) * c"}, {"(-a)*c", "(- a) * c"}, {"(a:1)*c", "(a:1) * c"}, {"(f x)*c", "f[x] * c"}, {"(1;2)*()", "(1;2) * ()"}, {"1 mod 2", "1 mod 2"}, {"mod 2", "mod 2"}, {"1 2[0]+1", "1 2[0] + 1"}, {"{x}+{y}", "{x} + {y}"}, {"a+([]b:1)", "a + ([]b:1)"}, {"a . b", "a . b"}, {"a _ b", "a _ b"}, {"`a . 1", "`a . 1"}, {"1 _ 2", "1 _ 2"}, {"a+b+/c", "a + b +/ c"},
		// what is applied
		{"f x", "f[x]"}, {"f g x", "f[g[x]]"}, {"f[]", "f[]"}, {"f[ ; ]", "f[;]"}, {"f[;1]", "f[;1]"}, {"f[1;]", "f[1;]"}, {"f[a+b;a:1;- x]", "f[a + b;a:1;- x]"}, {"f[1][2]", "f[1][2]"}, {"f[1]2", "f[1][2]"}, {"(f 1)2", "f[1][2]"}, {"1 2 a", "1 2[a]"}, {"`a`b 1", "`a`b[1]"}, {"(1;2)0", "(1;2)[0]"}, {"{x}1", "{x}[1]"}, {"([]a:1)0", "([]a:1)[0]"}, {"(a+b)1", "(a + b)[1]"}, {"(-a)1", "(- a)[1]"}, {"(a:b)1", "(a:b)[1]"}, {"()b 1", "()b[1]"}, {"() 1", "()[1]"}, {"f(1;2)", "f[(1;2)]"}, {"f -1", "f[-1]"},
		// names that are assigned
		{"a : 1", "a:1"}, {"a:b:1", "a:b:1"}, {"a:-1", "a:-1"}, {"a:- 1", "a:- 1"}, {"a:()", "a:()"}, {"a:b+c", "a:b + c"},
		// lambdas, as they were written
		{"{}", "{}"}, {"{ [ a ; b ]  a+b ; }", "{ [ a ; b ]  a+b ; }"}, {"a:{[p]p+1;}", "a:{[p]p+1;}"}, {"({x})", "{x}"},
		// tables
		{"( [ ] a : 1 2 )", "([]a:1 2)"}, {"([]a:1 2;\"x y\":3)", "([]a:1 2;\"x y\":3)"}, {"([]\"a\":1)", "([]a:1)"}, {"([]mod:1)", "([]mod:1)"}, {"([]\"mod\":1)", "([]mod:1)"}, {"([]\"\":1)", "([]\"\":1)"}, {"([]\"a.b\":1;\"1\":2;\"\\x00\":3)", "([]\"a.b\":1;\"1\":2;\"\\x00\":3)"}, {"([]a:b:1;c:f x;d:- y;e:a+b)", "([]a:b:1;c:f[x];d:- y;e:a + b)"},
	} {
		prints(t, c[0], c[1])
	}
	is(t, "of none", parse.Print(), "")
	is(t, "of several", parse.Print(tree(t, "a+b"), tree(t, ""), tree(t, "+/x"), tree(t, "(+)")), "a + b;;+/ x;(+)")
	for _, v := range strings.Split(api.Verbs, "") {
		prints(t, "x  "+v+" y", "x "+v+" y")
		prints(t, v+" y", v+" y")
		prints(t, "x "+v+"/:y", "x "+v+"/: y")
	}
}

// TestSame: P15.9: all fields but At.
func TestSame(t *testing.T) {
	texts := strings.Fields("a b (a;b) (b;a) (a;b;c) () 1 2 1b 1t 1.0 `a `b `a`b ()i ()b ()s (+) (-) (mod) (div) (+/) (+') (-/) (a/) a+b a-b b+a a*b+c (a*b)+c -a +a -b a[b] a[] a[b;c] a[;b] a[b;] a[;] a[b][c] b[a] (+)[a] a:1 b:1 a:2 a:+ {a} {[]a} {[a]a} {[b]a} {a;} {b} ([]a:1) ([]b:1) ([]a:2) ([]a:1;b:2) ([]b:1;a:2) ([]b:2;a:1) ([]a:1;b:1) +/a a+/b +/'a")
	for i, a := range texts {
		for j, b := range texts {
			is(t, a+" "+b, parse.Same(tree(t, a), tree(t, "  "+b)), i == j)
		}
	}
	n := api.Node{Kind: api.NodeName, Text: "a"}
	is(t, "nil and empty", parse.Same(n, api.Node{Kind: api.NodeName, At: 7, Text: "a", S: []string{}, L: []api.Node{}, V: api.V{N: []int64{}}}), true)
	is(t, "names", parse.Same(n, api.Node{Kind: api.NodeName, Text: "a", S: []string{""}}), false)
	is(t, "values", parse.Same(n, api.Node{Kind: api.NodeName, Text: "a", V: api.V{T: api.KNil}}), false)
	is(t, "nothing", parse.Same(api.Node{}, api.Node{}), true)
}

// TestMeasures: P15.9: Count and Depth.
func TestMeasures(t *testing.T) {
	for s, want := range map[string][2]int{
		"": {1, 1}, "a": {1, 1}, "1 2 3": {1, 1}, "(+)": {1, 1}, "()": {1, 1}, "(a)": {1, 1}, "(1;2;3)": {4, 2}, "a+b": {4, 2}, "-a": {3, 2}, "a+b*c": {7, 3}, "(a*b)+c": {7, 3}, "+/x": {4, 3}, "x+/'y": {6, 4}, "f x": {3, 2}, "f g x": {5, 3}, "f[]": {2, 2}, "f[;]": {4, 2}, "f[1;2]": {4, 2}, "f[1][2]": {5, 3}, "a:1": {2, 2}, "a:b:1": {3, 3}, "{}": {2, 2}, "{[a;b]}": {2, 2}, "{a+b;}": {6, 3}, "{{{}}}": {4, 4}, "([]a:1;b:2)": {3, 2}, "([]a:x+y)": {5, 3}, "(1;(2;(3;4)))": {7, 4}, "((1;2);3)": {5, 3},
	} {
		is(t, s+": count", parse.Count(tree(t, s)), want[0])
		is(t, s+": depth", parse.Depth(tree(t, s)), want[1])
	}
	is(t, "count of nothing", parse.Count(api.Node{}), 1)
	is(t, "depth of nothing", parse.Depth(api.Node{}), 1)
}

// TestNames: P15.9: names that are read or assigned, from the left.
func TestNames(t *testing.T) {
	for s, want := range map[string]string{
		"": "", "1": "", "a": "a", "(a)": "a", "a+b": "a b", "b+a": "b a", "a+a": "a", "a+b*a-c": "a b c", "(b*c)+a": "b c a", "x f/ y": "x f y", "x f/' y": "x f y", "f/ x": "f x", "x f[a]/ y": "x f a y", "x +/ y": "x y", "x mod y": "x y", "-x": "x", "f g x": "f g x", "f[x;y]": "f x y", "f[]": "f", "f[;x]": "f x", "f[x][y]": "f x y", "(a;b;a;c)": "a b c", "a:1": "a", "a:b": "a b", "b+a:b": "b a", "a:a": "a", "a:b:c": "a b c", "(a:b)+c": "a b c", "{a}": "", "{[a]b:c}": "", "a:b+{c}d": "a b d", "a{b}c": "a c", "([]a:b;c:d+e)": "b d e", "([]a:1)": "", "([]a:a)": "a", "sum x": "sum x", "(z;y)f/x w": "z y f x w", "(a;b)(f;g)/(c;d)": "a b f g c d", "f/g/x": "f g x", "x f/g/y": "x f g y", "a-b-(c-d)-e": "a b c d e", "`a": "", "(b-a)f'c": "b a f c",
	} {
		is(t, s, strings.Join(parse.Names(tree(t, s)), " "), want)
	}
	is(t, "of nothing", len(parse.Names(api.Node{})), 0)
	var all []string
	for i := range 2000 {
		all = append(all, "n"+strings.Repeat("x", i%7)+string(rune('a'+i%26))+strings.Repeat("y", i%11))
	}
	unlike := slices.Clone(all)
	slices.Sort(unlike)
	is(t, "each once", len(parse.Names(tree(t, strings.Join(all, " ")))), len(slices.Compact(unlike)))
}
