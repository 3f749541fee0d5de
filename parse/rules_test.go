package parse_test

import (
	"strings"
	"testing"

	"quiver/api"
	"quiver/parse"
)

// places has the memory of lists, element by element, spare room too.
type places map[any]bool

// into puts a list's memory among the places, in which it must not be yet.
func into[K any](t *testing.T, what string, p places, l []K) {
	t.Helper()
	for i := range l[:cap(l)] {
		x := &l[:cap(l)][i]
		is(t, what+": memory of its own", p[x], false)
		p[x] = true
	}
}

func (p places) value(t *testing.T, what string, v api.V) {
	t.Helper()
	into(t, what, p, v.N)
	into(t, what, p, v.S)
	into(t, what, p, v.L)
	for _, x := range v.L {
		p.value(t, what, x)
	}
}

func (p places) trees(t *testing.T, what string, l []api.Node) {
	t.Helper()
	into(t, what, p, l)
	for _, n := range l {
		into(t, what, p, n.S)
		p.value(t, what, n.V)
		p.trees(t, what, n.L)
	}
}

// whole has something of each kind of tree.
const whole = "a:1 2 3+`x`y f/ g[;h 101b;()i];- x mod (1 2;3;());([]a:1 2;\"b c\":{[p;q]p+q;{x}});(+);f[1;2;3;4;5][]"

// TestApart: rule 3: what is answered shares nothing with an argument, with itself, or with another answer.
func TestApart(t *testing.T) {
	p := places{}
	for range 2 {
		p.trees(t, "Parse", trees(t, whole))
	}
	s := "(" + strings.ReplaceAll(whole, "(+);", "(+);a;") + ")"
	l := tokens(t, s)
	room := append(make([]api.Token, 0, len(l)+9), l...)
	was := append([]api.Token(nil), room[:cap(room)]...)
	for _, x := range room {
		p.value(t, "tokens", x.V)
	}
	var first string
	for range 2 {
		n, e, _ := parse.Expr(s, room...)
		is(t, "Expr", e, api.OK)
		p.trees(t, "Expr", []api.Node{n})
		first = told(n, true)
	}
	n, _, _ := parse.Expr(s, room...)
	for i, x := range room[:cap(room)] {
		is(t, "tokens as they were", x.Text == was[i].Text && x.Kind == was[i].Kind && x.At == was[i].At && x.End == was[i].End, true)
		is(t, "values as they were", told(api.Node{Kind: api.NodeValue, V: x.V}, false), told(api.Node{Kind: api.NodeValue, V: was[i].V}, false))
		for i := range x.V.N {
			x.V.N[i] = 77
		}
		for i := range x.V.S {
			x.V.S[i] = "zz"
		}
	}
	clear(room[:cap(room)])
	is(t, "Expr keeps no tokens", told(n, true), first)
	for range 2 {
		into(t, "Names", p, parse.Names(n))
	}
}

// TestKept: rule 3: trees that are handed in stay as they are, spare room too.
func TestKept(t *testing.T) {
	l := trees(t, whole)
	room := append(make([]api.Node, 0, len(l)+9), l...)
	for i := range room[len(l):cap(room)] {
		room[len(l):cap(room)][i] = api.Node{Kind: api.NodeName, Text: "spare"}
	}
	full := func() string { return toldAll(room[:cap(room)], true) }
	was := full()
	is(t, "Print", parse.Print(room...), writtenAll(l))
	for _, n := range room {
		parse.Names(n)
		is(t, "Same", parse.Same(n, n), true)
		parse.Count(n)
		parse.Depth(n)
	}
	is(t, "as they were", full(), was)
	names := parse.Names(room[0])
	names[0] = "zz"
	clear(names)
	is(t, "as they were", full(), was)
	is(t, "the names are told again", strings.Join(parse.Names(room[0]), " "), "a f g h")
}

// junk draws what may be no tree.
func junk(draw func(int) int, depth int) api.Node {
	texts := []string{"", "a", "+", "/", "{x}", "mod", " ", "\"", "(", "\x00"}
	n := api.Node{Kind: draw(16) - 2, At: draw(9) - 3, Text: texts[draw(len(texts))]}
	for range draw(3) {
		n.S = append(n.S, texts[draw(len(texts))])
	}
	values := []api.V{{}, {T: api.KInt, N: []int64{1, 2}}, {T: -api.KInt}, {T: 77}, {T: api.KTable, S: []string{"a"}}, {T: -api.KSym, N: []int64{1}}, {T: api.KDict, L: []api.V{{T: -9}}}, {T: api.KLambda}, {T: api.KLambda, S: []string{"}"}}, {T: api.KNil}, {T: api.KBool, N: []int64{7}}, {T: api.KSym, S: []string{"", "\x00"}}, {T: api.KList, L: []api.V{{T: api.KNil}}}}
	n.V = values[draw(len(values))]
	if depth > 0 {
		for range draw(4) {
			n.L = append(n.L, junk(draw, depth-1))
		}
	}
	return n
}

// TestNoTrees: rule 1: every call ends, and none panics, of what is no tree, and of tokens that are no text's.
func TestNoTrees(t *testing.T) {
	draw := draws(17)
	texts := strings.Split("a¦+¦(¦)¦[¦]¦{¦}¦;¦:¦::¦/¦mod¦1¦¦ ", "¦")
	for range 30000 {
		a, b := junk(draw, 3), junk(draw, 3)
		is(t, "same as itself", parse.Same(a, a), true)
		is(t, "either way round", parse.Same(a, b), parse.Same(b, a))
		is(t, "count", parse.Count(a), nodes([]api.Node{a}))
		is(t, "depth", parse.Depth(a), levels([]api.Node{a}))
		parse.Names(a)
		parse.Print(a, b)
		var l []api.Token
		for range draw(12) {
			x := api.Token{Kind: draw(9) - 1, At: draw(20) - 5, End: draw(20) - 5, Text: texts[draw(len(texts))]}
			if draw(2) == 0 {
				x.Kind, x.V = api.TokenMark, a.V
			}
			l = append(l, x)
		}
		parse.Expr("{a+b}"[:draw(6)], l...)
		parse.Expr("", append([]api.Token{{Kind: api.TokenMark, Text: "{", At: draw(9) - 4}, {Kind: api.TokenMark, Text: "}", End: draw(9) - 4}}, l[:draw(len(l)+1)]...)...)
	}
}

// TestDeep: trees as deep as they may be handed in, and as many tokens in one another.
func TestDeep(t *testing.T) {
	const deep = 1<<16 - 2
	x := api.Node{Kind: api.NodeName, Text: "x"}
	minus := api.Node{Kind: api.NodeVerb, Text: "-"}
	monads, dyads, applied := x, x, x
	for range deep {
		monads = api.Node{Kind: api.NodeMonad, L: []api.Node{minus, monads}}
		dyads = api.Node{Kind: api.NodeDyad, L: []api.Node{minus, dyads, x}}
		applied = api.Node{Kind: api.NodeApply, L: []api.Node{applied}}
	}
	is(t, "monads", parse.Print(monads), strings.Repeat("- ", deep)+"x")
	is(t, "dyads", parse.Print(dyads), strings.Repeat("(", deep-1)+"x - x"+strings.Repeat(") - x", deep-1))
	is(t, "applied", parse.Print(applied), "x"+strings.Repeat("[]", deep))
	for _, n := range []api.Node{monads, dyads, applied} {
		is(t, "depth", parse.Depth(n), deep+1)
		is(t, "same", parse.Same(n, n), true)
		is(t, "names", strings.Join(parse.Names(n), " "), "x")
	}
	is(t, "count", parse.Count(monads), 2*deep+1)
	is(t, "unlike", parse.Same(monads, applied), false)
	var minuses, names, assigns, adverbs []api.Token
	for range deep / 2 {
		minuses = append(minuses, api.Token{Kind: api.TokenVerb, Text: "-"})
		names = append(names, api.Token{Kind: api.TokenName, Text: "x"})
		assigns = append(assigns, names[0], api.Token{Kind: api.TokenMark, Text: ":"})
		adverbs = append(adverbs, api.Token{Kind: api.TokenAdverb, Text: "/"})
	}
	for _, l := range [][]api.Token{minuses, names, assigns, append(names[:1:1], adverbs...)} {
		_, e, at := parse.Expr("", append(l, names[0])...)
		is(t, "too many", e, api.ErrMany)
		is(t, "place", at, 0)
	}
}
