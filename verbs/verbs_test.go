package verbs_test

import (
	"fmt"
	"slices"
	"strings"
	"testing"

	"quiver/api"
	"quiver/text"
	"quiver/value"
	"quiver/verbs"
)

const (
	null     = api.Null
	greatest = 1<<63 - 1
)

// draws is a row of numbers that looks random, and is the same each time.
func draws(seed uint64) func(below int) int {
	return func(below int) int {
		seed = seed*6364136223846793005 + 1442695040888963407
		return int(seed>>33) % below
	}
}

func is[K comparable](t *testing.T, what string, got, want K) {
	t.Helper()
	if got != want {
		t.Fatalf("%.300s: %.300s, not %.300s", what, fmt.Sprint(got), fmt.Sprint(want))
	}
}

// The kinds of values, written out without the packages' help.
func vector(t int, n ...int64) api.V { return api.V{T: t, N: n} }
func symbols(s ...string) api.V      { return api.V{T: api.KSym, S: s} }
func atom(t int, n int64) api.V      { return api.V{T: -t, N: []int64{n}} }
func symbol(s string) api.V          { return api.V{T: -api.KSym, S: []string{s}} }
func list(l ...api.V) api.V          { return api.V{T: api.KList, L: l} }
func pairs(k, v api.V) api.V         { return api.V{T: api.KDict, L: []api.V{k, v}} }
func lambda(s string) api.V          { return api.V{T: api.KLambda, S: []string{s}} }
func nothing() api.V                 { return api.V{T: api.KNil} }
func ints(n ...int64) api.V          { return vector(api.KInt, n...) }
func one(n int64) api.V              { return atom(api.KInt, n) }
func truth(n int64) api.V            { return atom(api.KBool, n) }
func table(names []string, cols ...api.V) api.V {
	return api.V{T: api.KTable, S: names, L: cols}
}

// read is the value that a text is of.
func read(t *testing.T, s string) api.V {
	t.Helper()
	v, e := text.Read(s)
	if e != api.OK {
		t.Fatalf("%q is no value's text: error %d", s, e)
	}
	return v
}

// around is v in so many lists.
func around(v api.V, lists int) api.V {
	for range lists {
		v = list(v)
	}
	return v
}

// deep is a list of that depth, with one element.
func deep(depth int) api.V { return around(ints(1), depth-1) }

// til is the ints ahead of n.
func til(n int) api.V {
	l := ints()
	for i := range n {
		l.N = append(l.N, int64(i))
	}
	return l
}

// told is values in few words.
func told(l ...api.V) string { return fmt.Sprintf("%.300s", text.Show(l...)) }

// wants holds an answer against the value that it ought to be, or the error.
func wants(t *testing.T, got api.V, e api.Errno, want api.V, wantE api.Errno, what string, handed ...api.V) {
	t.Helper()
	if e != wantE || !value.Match(got, want) || value.Check(got) != api.OK {
		t.Fatalf("%s of %s: %s, error %d; not %s, error %d", what, told(handed...), told(got), e, told(want), wantE)
	}
}

func wantMonad(t *testing.T, name string, x, want api.V, wantE api.Errno) {
	t.Helper()
	got, e := verbs.Monad(name, x)
	wants(t, got, e, want, wantE, name, x)
}

func wantDyad(t *testing.T, name string, x, y, want api.V, wantE api.Errno) {
	t.Helper()
	got, e := verbs.Dyad(name, x, y)
	wants(t, got, e, want, wantE, name, x, y)
}

func wantIndex(t *testing.T, want api.V, wantE api.Errno, x api.V, at ...api.V) {
	t.Helper()
	got, e := verbs.Index(x, at...)
	wants(t, got, e, want, wantE, "Index", append([]api.V{x}, at...)...)
}

// monads holds a verb against rows of an operand and what it makes of it.
func monads(t *testing.T, name string, rows ...[2]string) {
	t.Helper()
	for _, row := range rows {
		wantMonad(t, name, read(t, row[0]), read(t, row[1]), api.OK)
	}
}

// noMonads tells that a verb makes nothing of these operands.
func noMonads(t *testing.T, name string, e api.Errno, operands ...string) {
	t.Helper()
	for _, x := range operands {
		wantMonad(t, name, read(t, x), api.V{}, e)
	}
}

// dyads holds a verb against rows of two operands and what it makes of them.
func dyads(t *testing.T, name string, rows ...[3]string) {
	t.Helper()
	for _, row := range rows {
		wantDyad(t, name, read(t, row[0]), read(t, row[1]), read(t, row[2]), api.OK)
	}
}

// noDyads tells that a verb makes nothing of these pairs of operands.
func noDyads(t *testing.T, name string, e api.Errno, rows ...[2]string) {
	t.Helper()
	for _, row := range rows {
		wantDyad(t, name, read(t, row[0]), read(t, row[1]), api.V{}, e)
	}
}

// kinds are texts of values of each kind.
func kinds() []string {
	return []string{
		"0b", "5", "0N", "`a", "`", "5t", "1.5", "101b", "1 2", ",1", "`a`b", "1t 2t", "1.5 2.5", "()b", "()i", "()s", "()t", "()d",
		"()", ",1 2", "(1;`a)", "(1 2;3 4)", "(`a`b!1 2)", "(1 2!(1;`a))", "(()!())", "([]a:1 2)", "([]a:1 2;b:`x`y)", "([]a:()i)",
		"(([]a:1 2)!([]b:3 4))", "(([]a:1 2;b:3 4)!([]c:`x`y))", "{x}", "::",
	}
}

const monadWords = "sum avg min max sums mins maxs deltas first last count distinct asc desc iasc idesc group where til reverse neg not null keys values cols key unkey string type"
const dyadWords = "mod div in within xasc xdesc xkey union except inter cut bin"

// TestWord: P16.1.
func TestWord(t *testing.T) {
	ones, twos := strings.Fields(monadWords), strings.Fields(dyadWords)
	for _, name := range ones {
		is(t, name, verbs.Word(name), 1)
	}
	for _, name := range twos {
		is(t, name, verbs.Word(name), 2)
	}
	for _, name := range []string{"", " ", "sum ", " sum", "sum avg", "Sum", "su", "summ", "x", "+", "mod div", "select", "each", "mod\x00"} {
		is(t, name, verbs.Word(name), 0)
	}
	for i := range api.Verbs {
		is(t, "a verb", verbs.Word(api.Verbs[i:i+1]), 0)
	}
	is(t, "Words", slices.Equal(verbs.Words(), append(ones, twos...)), true)
}

// TestWordsApart: rule 3.
func TestWordsApart(t *testing.T) {
	l := verbs.Words()
	want := slices.Clone(l)
	for i := range l[:cap(l)] {
		l[:cap(l)][i] = "scribbled"
	}
	is(t, "Words", slices.Equal(verbs.Words(), want), true)
}

// TestErrVerb: P16.4: what is no verb, and no word with so many operands, whatever the operands are.
func TestErrVerb(t *testing.T) {
	none := []string{"", " ", "q", "++", "+-", api.Verbs, "sum avg", "Sum", "'", "/", ":", "+ ", "\x00"}
	for _, s := range kinds() {
		x := read(t, s)
		for _, name := range append(none, strings.Fields(dyadWords)...) {
			wantMonad(t, name, x, api.V{}, api.ErrVerb)
		}
		for _, name := range append(none, strings.Fields(monadWords)...) {
			wantDyad(t, name, x, x, api.V{}, api.ErrVerb)
		}
	}
}

// TestAll: P16.4: every verb is one with one operand and with two; every word is one with as many as it has; and each answers a value, or an error.
func TestAll(t *testing.T) {
	for _, s := range kinds() {
		x := read(t, s)
		for _, name := range append(strings.Split(api.Verbs, ""), strings.Fields(monadWords)...) {
			v, e := verbs.Monad(name, x)
			if e == api.ErrVerb || value.Check(v) != api.OK || e != api.OK && !value.Match(v, api.V{}) {
				t.Fatalf("%s of %s: %s, error %d", name, s, told(v), e)
			}
		}
		for _, name := range append(strings.Split(api.Verbs, ""), strings.Fields(dyadWords)...) {
			for _, r := range kinds() {
				v, e := verbs.Dyad(name, x, read(t, r))
				if e == api.ErrVerb || value.Check(v) != api.OK || e != api.OK && !value.Match(v, api.V{}) {
					t.Fatalf("%s %s %s: %s, error %d", s, name, r, told(v), e)
				}
			}
		}
	}
}

// TestSame: 16.1, 16.2: the words that are other names of verbs.
func TestSame(t *testing.T) {
	ones := [][2]string{{"-", "neg"}, {"~", "not"}, {"^", "null"}, {"*", "first"}, {"#", "count"}, {"|", "reverse"}, {"&", "where"}, {"!", "til"}, {"<", "iasc"}, {">", "idesc"}, {"=", "group"}, {"?", "distinct"}, {"@", "type"}, {"$", "string"}, {".", "values"}}
	for _, s := range kinds() {
		x := read(t, s)
		for _, row := range ones {
			want, e := verbs.Monad(row[0], x)
			wantMonad(t, row[1], x, want, e)
		}
		for _, r := range kinds() {
			y := read(t, r)
			want, e := verbs.Dyad("%", x, y)
			wantDyad(t, "div", x, y, want, e)
			want, e = verbs.Index(x, y)
			wantDyad(t, "@", x, y, want, e)
		}
	}
}

// TestExamples: the chapter's examples.
func TestExamples(t *testing.T) {
	dyads(t, "+", [3]string{"(1;2 3)", "10", "(11;12 13)"})
	dyads(t, "!", [3]string{"`a`b", "1 2", "(`a`b!1 2)"})
	monads(t, "=", [2]string{"`x`y`x", "(`x`y!(0 2;,1))"})
	dyads(t, "within", [3]string{"1 5 9", "2 6", "010b"})
	dyads(t, "cut", [3]string{"0 2", "1 2 3", "(1 2;,3)"})
	dyads(t, "bin", [3]string{"1 3 5", "4", "1"})
	wantIndex(t, ints(1, 2), api.OK, table([]string{"a"}, ints(1, 2)), symbol("a"))
	dyads(t, "#", [3]string{"2", "([]a:1 2 3)", "([]a:1 2)"})
	wantMonad(t, "q", one(1), api.V{}, api.ErrVerb)
}
