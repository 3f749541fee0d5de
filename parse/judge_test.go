package parse_test

import (
	"slices"
	"strings"
	"testing"

	"quiver/api"
	"quiver/lex"
	"quiver/parse"
	"quiver/text"
)

// letter stands for what a token is: v a value, n a name, i an infix word, s a text, o a verb, a an adverb, d ::, or the mark.
func letter(x api.Token) byte {
	switch {
	case x.Kind == api.TokenName && slices.Contains(strings.Fields(api.Infix), x.Text):
		return 'i'
	case x.Text == "::":
		return 'd'
	case x.Kind == api.TokenMark:
		return x.Text[0]
	}
	return "?vnsoa"[x.Kind]
}

// grammar is what P15.1 says, with a big letter for what it names: Statements, one of them (T), Expression, Assignment, eXpression or verb, Verb, Noun, Primary, a List's parts, arGuments, one of them (H), Columns, their names (K), paraMeters.
var grammar = map[byte][]string{
	'S': {"T", "T;S"},
	'T': {"", "E"},
	'E': {"N", "A", "NVE", "NE", "VE"},
	'A': {"n:X"},
	'X': {"E", "V"},
	'V': {"o", "i", "Va", "Na"},
	'N': {"P", "N[]", "N[G]"},
	'P': {"v", "n", "()", "(L)", "([]C)", "{S}", "{[]S}", "{[M]S}"},
	'L': {"X", "X;L"},
	'G': {"H", "H;G"},
	'H': {"", "X"},
	'C': {"K:E", "K:E;C"},
	'K': {"n", "i", "s"},
	'M': {"n", "n;M"},
}

// nullable has what may stand for no token at all.
const nullable = "STGH"

// item is a rule of which so much is read, from a token on.
type item struct {
	left  byte
	right string
	dot   int
	from  int
}

func (i item) next() byte {
	if i.dot < len(i.right) {
		return i.right[i.dot]
	}
	return 0
}

func (i item) on() item {
	i.dot++
	return i
}

// chart has for each token, and ahead of the first, all rules that may be under way there: none, if that token fits nothing.
type chart [][]item

func charted(start byte) chart {
	c := chart{nil}
	c.predict(start)
	return c.close()
}

func (c chart) add(x item) {
	last := len(c) - 1
	if !slices.Contains(c[last], x) {
		c[last] = append(c[last], x)
	}
}

func (c chart) predict(left byte) {
	for _, right := range grammar[left] {
		c.add(item{left: left, right: right, from: len(c) - 1})
	}
}

func (c chart) close() chart {
	for k := 0; k < len(c[len(c)-1]); k++ {
		x := c[len(c)-1][k]
		if x.next() == 0 {
			for _, y := range c[x.from] {
				if y.next() == x.left {
					c.add(y.on())
				}
			}
			continue
		}
		c.predict(x.next())
		if strings.IndexByte(nullable, x.next()) >= 0 {
			c.add(x.on())
		}
	}
	return c
}

// with is the chart behind one token more.
func (c chart) with(letter byte) chart {
	d := append(slices.Clone(c), nil)
	for _, x := range c[len(c)-1] {
		if x.next() == letter {
			d.add(x.on())
		}
	}
	return d.close()
}

func (c chart) fits() bool { return len(c[len(c)-1]) > 0 }

func (c chart) ends(start byte) bool {
	return slices.ContainsFunc(c[len(c)-1], func(x item) bool { return x.left == start && x.next() == 0 && x.from == 0 })
}

// fault is what P15.2 says of tokens: the error, and its place, but for ErrMany.
func fault(start byte, end int, l []api.Token) (api.Errno, int) {
	c, open := charted(start), 0
	for _, x := range l {
		c = c.with(letter(x))
		if !c.fits() {
			return api.ErrParse, x.At
		}
		if strings.Contains("([{", string(letter(x))) {
			open++
		} else if strings.Contains(")]}", string(letter(x))) {
			open--
		}
		if open > api.MaxNest {
			return api.ErrNest, x.At
		}
	}
	if !c.ends(start) {
		return api.ErrParse, end
	}
	return api.OK, 0
}

// judge makes trees of tokens that are right, from the left, as P15.1 says it, and gathers what names it comes to.
type judge struct {
	s     string
	l     []api.Token
	end   int
	names map[int]string // by the places of their tokens
	deep  int            // lambdas that are open
}

func (j *judge) letter(i int) byte { return letter(j.l[i]) }

func (j *judge) at(i int) int {
	if i < len(j.l) {
		return j.l[i].At
	}
	return j.end
}

// matching is the place of the bracket that closes the one at i, or, if step is -1, of that which opens it.
func (j *judge) matching(i, step int) int {
	for level := 0; ; i += step {
		if strings.Contains("([{", string(j.letter(i))) {
			level++
		} else if strings.Contains(")]}", string(j.letter(i))) {
			level--
		}
		if level == 0 {
			return i
		}
	}
}

// split goes over the pieces of the tokens from i to k between which a ; stands, in no brackets.
func (j *judge) split(i, k int, do func(i, k int)) {
	for m := i; m < k; m++ {
		switch j.letter(m) {
		case ';':
			do(i, m)
			i = m + 1
		case '(', '[', '{':
			m = j.matching(m, 1)
		}
	}
	do(i, k)
}

// maybe is what stands from i to k, perhaps nothing.
func (j *judge) maybe(i, k int) api.Node {
	if i == k {
		return api.Node{Kind: api.NodeNil, At: j.at(k)}
	}
	return j.expr(i, k)
}

func (j *judge) all(i, k int) []api.Node {
	var l []api.Node
	j.split(i, k, func(i, k int) { l = append(l, j.maybe(i, k)) })
	return l
}

func (j *judge) note(i int) {
	if j.deep == 0 {
		j.names[j.l[i].At] = j.l[i].Text
	}
}

func (j *judge) assigns(i, k int) bool { return j.letter(i) == 'n' && i+1 < k && j.letter(i+1) == ':' }

// term is where the term that begins at i ends, and whether it is a verb.
func (j *judge) term(i, k int) (int, bool) {
	end, verb := i+1, j.letter(i) == 'o' || j.letter(i) == 'i'
	if j.letter(i) == '(' || j.letter(i) == '{' {
		end = j.matching(i, 1) + 1
	}
	for ; end < k && j.letter(end) == '['; end = j.matching(end, 1) + 1 {
	}
	for ; end < k && j.letter(end) == 'a'; end++ {
		verb = true
	}
	return end, verb
}

func (j *judge) expr(i, k int) api.Node {
	at := j.l[i].At
	if j.assigns(i, k) {
		j.note(i)
		return api.Node{Kind: api.NodeAssign, At: at, Text: j.l[i].Text, L: []api.Node{j.expr(i+2, k)}}
	}
	u, verb := j.term(i, k)
	t := j.made(i, u)
	if u == k {
		return t
	}
	if verb {
		return api.Node{Kind: api.NodeMonad, At: at, L: []api.Node{t, j.expr(u, k)}}
	}
	if v, verb := j.term(u, k); verb && !j.assigns(u, k) {
		return api.Node{Kind: api.NodeDyad, At: at, L: []api.Node{j.made(u, v), t, j.expr(v, k)}}
	}
	return api.Node{Kind: api.NodeApply, At: at, L: []api.Node{t, j.expr(u, k)}}
}

// made is the term from i to k.
func (j *judge) made(i, k int) api.Node {
	n := api.Node{At: j.l[i].At, Text: j.l[i].Text}
	last := k - 1
	switch j.letter(last) {
	case 'a':
		n.Kind, n.Text, n.L = api.NodeDerived, j.l[last].Text, []api.Node{j.made(i, last)}
		return n
	case ']':
		open := j.matching(last, -1)
		n.Kind, n.Text, n.L = api.NodeApply, "", []api.Node{j.made(i, open)}
		if open+1 < last {
			n.L = append(n.L, j.all(open+1, last)...)
		}
		return n
	case ')':
		return j.round(i, last)
	case '}':
		return j.lambda(i, last)
	case 'v':
		n.Kind, n.Text, n.V = api.NodeValue, "", j.l[i].V
	case 'n':
		j.note(i)
		n.Kind = api.NodeName
	default:
		n.Kind = api.NodeVerb
	}
	return n
}

func (j *judge) round(i, last int) api.Node {
	n := api.Node{Kind: api.NodeList, At: j.l[i].At}
	if i+1 == last {
		return n
	}
	if j.letter(i+1) == '[' {
		n.Kind = api.NodeTable
		j.split(i+3, last, func(i, k int) {
			n.S = append(n.S, j.l[i].Text)
			n.L = append(n.L, j.expr(i+2, k))
		})
		return n
	}
	n.L = j.all(i+1, last)
	if len(n.L) == 1 {
		n.L[0].At = n.At
		return n.L[0]
	}
	return n
}

func (j *judge) lambda(i, last int) api.Node {
	n := api.Node{Kind: api.NodeLambda, At: j.l[i].At, Text: j.s[j.l[i].At:j.l[last].End]}
	begin := i + 1
	if j.letter(begin) == '[' {
		for ; j.letter(begin) != ']'; begin++ {
			if j.letter(begin) == 'n' {
				n.S = append(n.S, j.l[begin].Text)
			}
		}
		begin++
	}
	j.deep++
	n.L = j.all(begin, last)
	j.deep--
	return n
}

// named is all names that were come to, from the left, each once.
func (j *judge) named() string {
	var places []int
	for at := range j.names {
		places = append(places, at)
	}
	slices.Sort(places)
	var l []string
	for _, at := range places {
		if !slices.Contains(l, j.names[at]) {
			l = append(l, j.names[at])
		}
	}
	return strings.Join(l, " ")
}

// written is the text of a tree: P15.8.
func written(n api.Node) string {
	switch n.Kind {
	case api.NodeVerb, api.NodeDerived:
		return "(" + unbracketed(n) + ")"
	case api.NodeMonad:
		return unbracketed(n.L[0]) + " " + written(n.L[1])
	case api.NodeDyad:
		return noun(n.L[1]) + " " + unbracketed(n.L[0]) + " " + written(n.L[2])
	case api.NodeApply:
		return noun(n.L[0]) + "[" + writtenAll(n.L[1:]) + "]"
	case api.NodeAssign:
		return n.Text + ":" + written(n.L[0])
	case api.NodeList:
		return "(" + writtenAll(n.L) + ")"
	case api.NodeTable:
		var columns []string
		for i, x := range n.L {
			name := n.S[i]
			if !lex.Word(name) {
				name = text.Quote(name)
			}
			columns = append(columns, name+":"+written(x))
		}
		return "([]" + strings.Join(columns, ";") + ")"
	case api.NodeValue:
		return text.Show(n.V)
	}
	return n.Text
}

func writtenAll(l []api.Node) string {
	var parts []string
	for _, n := range l {
		parts = append(parts, written(n))
	}
	return strings.Join(parts, ";")
}

// unbracketed is the text of a verb where it is done, or an adverb follows.
func unbracketed(n api.Node) string {
	if n.Kind == api.NodeVerb {
		return n.Text
	}
	of := n.L[0]
	switch of.Kind {
	case api.NodeVerb, api.NodeDerived:
		return unbracketed(of) + n.Text
	case api.NodeValue:
		return "(" + written(of) + ")" + n.Text
	}
	return noun(of) + n.Text
}

func noun(n api.Node) string {
	switch n.Kind {
	case api.NodeMonad, api.NodeDyad, api.NodeAssign:
		return "(" + written(n) + ")"
	}
	return written(n)
}

// nodes is how many a tree has.
func nodes(l []api.Node) int {
	sum := len(l)
	for _, n := range l {
		sum += nodes(n.L)
	}
	return sum
}

func levels(l []api.Node) int {
	deepest := 0
	for _, n := range l {
		deepest = max(deepest, 1+levels(n.L))
	}
	return deepest
}

// holds holds Parse of s against the judge: an error and its place, or the trees, and what follows from them.
func holds(t *testing.T, s string, e api.Errno, place int) {
	t.Helper()
	got, e2, at := parse.Parse(s)
	if e2 != e || at != place {
		t.Fatalf("%q: error %d at %d, not %d at %d", s, e2, at, e, place)
	}
	if e != api.OK {
		is(t, s+": no trees", len(got), 0)
		return
	}
	j := judge{s: s, l: tokens(t, s), end: len(s), names: map[int]string{}}
	want := j.all(0, len(j.l))
	is(t, s, toldAll(got, true), toldAll(want, true))
	measured(t, s, &j, got)
	again(t, s, got)
}

// measured: P15.9 of all trees of a text.
func measured(t *testing.T, s string, j *judge, l []api.Node) {
	t.Helper()
	var names []string
	count, depth := 0, 0
	for _, n := range l {
		formed(t, s, n)
		count += parse.Count(n)
		depth = max(depth, parse.Depth(n))
		for _, x := range parse.Names(n) {
			if !slices.Contains(names, x) {
				names = append(names, x)
			}
		}
	}
	is(t, s+": count", count, nodes(l))
	is(t, s+": depth", depth, levels(l))
	is(t, s+": names", strings.Join(names, " "), j.named())
}

// again: P15.8 and P15.10.
func again(t *testing.T, s string, l []api.Node) {
	t.Helper()
	printed := parse.Print(l...)
	is(t, s+": text", printed, writtenAll(l))
	back, e, _ := parse.Parse(printed)
	if e == api.ErrNest {
		return // brackets that Print has added
	}
	is(t, printed+": there and back", e, api.OK)
	is(t, printed, toldAll(back, false), toldAll(l, false))
	for i, n := range back {
		is(t, printed+": same", parse.Same(n, l[i]), true)
	}
	is(t, printed+": twice", parse.Print(back...), printed)
}

// right holds Parse of s, and Expr of its tokens and of some of them, against the judge.
func right(t *testing.T, s string, draw func(int) int) {
	t.Helper()
	l, e, place := lex.Lex(s)
	if e != api.OK {
		holds(t, s, e, place)
		return
	}
	e, place = fault('S', len(s), l)
	holds(t, s, e, place)
	expr(t, s, l)
	from := draw(len(l) + 1)
	expr(t, s, l[from:from+draw(len(l)-from+1)])
}

// expr holds Expr of tokens against the judge.
func expr(t *testing.T, s string, l []api.Token) {
	t.Helper()
	end := 0
	if len(l) > 0 {
		end = l[len(l)-1].End
	}
	e, place := fault('E', end, l)
	got, e2, at := parse.Expr(s, l...)
	if e2 != e || at != place {
		t.Fatalf("%q: %d tokens of it: error %d at %d, not %d at %d", s, len(l), e2, at, e, place)
	}
	if e == api.OK {
		j := judge{s: s, l: l, end: end, names: map[int]string{}}
		is(t, s, told(got, true), told(j.expr(0, len(l)), true))
	} else {
		is(t, s+": no tree", got.Kind+len(got.L)+len(got.Text), 0)
	}
}

// sample is a token for a letter; which one hangs on its place.
func sample(letter byte, at int) string {
	switch letter {
	case 'v':
		return "`x"
	case 'n':
		return []string{"a", "b", "c"}[at%3]
	case 'i':
		return "in"
	case 's':
		return `"s t"`
	case 'o':
		return "+-"[at%2:][:1]
	case 'a':
		return []string{"/", "':", "'"}[at%3]
	case 'd':
		return "::"
	}
	return string(letter)
}

// TestShort: all that may stand there up to so many tokens, and behind each of these texts every token.
func TestShort(t *testing.T) {
	for _, c := range []struct {
		letters string
		size    int
	}{{"vnisoa()[]{};:d", 4}, {"noa()", 7}, {"no(;)", 7}, {"n([]:)", 8}, {"ns([]:;)", 8}, {"n{[];}", 7}, {"no[;]", 7}, {"noai:", 7}, {"na(:)", 7}, {"vno", 9}} {
		short(t, c.letters, c.size, "", 0, charted('S'))
	}
}

// short goes on from s, which has count tokens, with as many more as there may be.
func short(t *testing.T, letters string, more int, s string, count int, c chart) {
	place := len(s)
	if c.ends('S') {
		holds(t, s, api.OK, 0)
	} else {
		holds(t, s, api.ErrParse, place)
	}
	for i := range len(letters) {
		x := letters[i]
		d := c.with(x)
		longer := s + sample(x, count) + " "
		switch {
		case !d.fits():
			holds(t, longer, api.ErrParse, place)
		case more > 0:
			short(t, letters, more-1, longer, count+1, d)
		}
	}
}

// pieces are tokens of which texts are drawn.
func pieces() []string {
	return strings.Split("1¦-1¦1 2¦2.5¦0N¦5t¦101b¦`x¦`x`y¦`\"b c\"¦()i¦a¦b¦c¦f¦x¦y¦sum¦from¦in¦mod¦xasc¦\"\"¦\"s\"¦\"\\x00\"¦+¦-¦*¦,¦_¦.¦?¦=¦/¦\\¦'¦/:¦\\:¦':¦(¦(¦()¦)¦)¦[¦[¦[]¦([]¦]¦]¦{¦{[¦}¦}¦;¦;¦;¦:¦:¦a:¦b:¦::", "¦")
}

// drawn is a text of pieces, most of which fit where they stand; in the end brackets are closed, as far as that does it.
func drawn(draw func(int) int, size, wrong int) string {
	all := pieces()
	s, c := "", charted('S')
	put := func(p string) bool {
		l, _, _ := lex.Lex(p)
		d := c
		for _, x := range l {
			if d = d.with(letter(x)); !d.fits() {
				break
			}
		}
		if d.fits() {
			s, c = s+" "[draw(2):]+p, d
		}
		return d.fits()
	}
	for range size {
		p := all[draw(len(all))]
		if !put(p) && draw(wrong) == 0 {
			return s + " " + p
		}
	}
	for !c.ends('S') && (put(")") || put("]") || put("}") || put(" a") || put(":")) {
	}
	return s
}

// TestDrawn: texts of pieces that fit, and now and then of such that do not.
func TestDrawn(t *testing.T) {
	draw := draws(15)
	fine := 0
	for i := range 6000 {
		s := drawn(draw, 1+draw(60), 10+i%3*1000)
		right(t, s, draw)
		if _, e, _ := parse.Parse(s); e == api.OK {
			fine++
		}
	}
	if fine < 2000 {
		t.Fatal("too few that are right:", fine)
	}
}

// TestBytes: P15.11: any bytes, and any tokens, end with trees, or with an error that has a place in the text, or at its end.
func TestBytes(t *testing.T) {
	draw := draws(16)
	all := pieces()
	for i := range 20000 {
		var b []byte
		for range draw(12) {
			if i%2 == 0 {
				b = append(b, all[draw(len(all))]...)
			} else {
				b = append(b, "+-a1 ()[]{};:/'`\"x0.\x00\xff"[draw(22)])
			}
		}
		right(t, string(b), draw)
	}
}
