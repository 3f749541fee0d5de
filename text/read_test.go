package text_test

import (
	"math"
	"regexp"
	"slices"
	"strconv"
	"strings"
	"testing"

	"quiver/api"
	"quiver/text"
	"quiver/value"
)

// noTexts are texts of no value, by what is wrong in them.
func noTexts() map[string][]string {
	return map[string][]string{
		"pieces":     {"", " ", "x", "abc", "-", "+", "\"a\"", "\"\"", "'", "nothing", "N", "t", "b", "d", ".", "\x00", "\xff", ":", ":::", "[]", ";", "!", "]", ")", "(", "1;2", "1!2", "`a!1 2", "a:1", "a", "1+2", "/"},
		"blanks":     {" 1", "1 ", "1  2", "1\t2", "1\n2", "1 2 ", " `a", "`a ", "`a `b", "( )", "() i", "(1 2; `a)", "(1 2 ;`a)", "( 1 2;`a)", "(1 2;`a )", ", 5", " ,5", ",5 ", ": :", "([] a:,1)", "([]a :,1)", "([]a: ,1)", "([]a:,1 )", "([ ]a:,1)", "(,1 !,2)", "(,1! ,2)", "{} ", " {}", "1 0b", "1b 0b"},
		"ints":       {"01", "-0", "00", "+1", "--1", "1-", "-01", "1 -", "1 01", "1e3", "1_000", "0x1", "9223372036854775808", "-9223372036854775808", "-9223372036854775809", "99999999999999999999", "0n", "N0", "0NN", "-0N", "0N0", "00N", "1N", "1 0Nt", "1,2", "1 ,2", "1a", "\u0661"},
		"times":      {"01t", "-0t", "t", "-t", "1tt", "5 t", "1t 2", "1 2t", "1t 2 3t", "1.5t", "9223372036854775808t", "-9223372036854775808t", "0NT", "-0Nt", "0Ntt", "1t2t", "5T"},
		"decs":       {"1.50", "1.", ".5", "-.5", "1.00", "01.5", "00.5", "-0.0", "1.12345", "1.10000", "1.5.5", "1..5", "1.-5", "1.+5", "1.5d", "0.0000", "0.00", "-00.5", "1,5", "1.5 2", "1 2.5", "1.5 0N", "1.5 0Nt", "1.5 2.50", "1.5 2.", "0Nd0", "-0Nd", "0ND", "922337203685477.5808", "-922337203685477.5808", "-922337203685477.5809", "922337203685478.0", "9999999999999999.0", "1.5e1", "1 .5", "1. 5"},
		"bools":      {"b", "2b", "12b", "-1b", "1B", "1bb", "0b1", "01b0b", "0Nb", "1.0b", "1tb", ",,b", "(b)", "xb", "10b 1b", "1 10b", "00 1b"},
		"symbols":    {"`9", "`_", "`.", "`-", "`a-b", "`a b", "`a``\"", "`\"", "`\"a\"", "`\"\"", "`\"abc\"`d", "`a`\"b\"", "`\"\\x41\"", "`\"\\x0A\"", "`\"\\n\"", "`\"\n\"", "`\"\x80\"", "`\"\\x00\"", "`\"a\\x00\"", "`a\x00", "`\u00e9", "`a\"b c\"", "`\"b c\"\"d e\"", "`\"b c\"d", "`'a'", "`" + strings.Repeat("x", api.MaxSym+1), "`\"" + strings.Repeat(" ", api.MaxSym+1) + "\"", "``" + strings.Repeat("x", api.MaxSym+1), "`a,`b", "`a 1", "`\"b c\" `d"},
		"empty ones": {"()x", "()n", "()B", "()ii", "()i1", "()i ()i", "()bi", "()l", "()0", "()f", "()I", "b()", "(())i", "(i)", "()(", "())", "()()", "()::"},
		"of one":     {",", ",,", ",::", ",,::", ",)", ",x", "1,", ",1,2", ",1;2", ",\"a\"", "(1)", "((1))", "(1 2)", "(`a)", "(())", "({})", "(::)", "(,1)", "(([]a:,1))", "(;)", "(1;)", "(;1)", "(1;;`a)", "(1;`a;)", "(;1;`a)"},
		"lists":      {"(1;2)", "(`a;`b)", "(1b;0b)", "(1t;2t;3t)", "(1.5;2.5)", "(1;2;3)", "(0N;1)", "(1;::)", "(::;1 2)", "(::;::)", "(1 2;`a", "(1 2;`a))", "(1 2;`a]", "(1 2,`a)", "(1 2 `a)", "(1;`a)(2;`b)", "(1;`a)1", "1(1;`a)", "((1;2);`a)", "(1;,(2;3))", "(1;`a;x)", "(x;1;`a)", "[1;`a]"},
		"dicts":      {"(1!2)", "(,1!2)", "(1!,2)", "(1 2!,3)", "(,3!1 2)", "()!()", "(,1!,2", "(,1!,2))", "(,1,2)", "(!)", "(,1!)", "(!,1)", "(,1!,2!,3)", "((,1!,2)!,3)", "(,1!{x})", "(::!::)", "(`a!1)", "(,1!([]a:,1))", "(([]a:,1)!,1)", "(([]a:,1)!([]b:1 2))", "(([]a:,1)!([]b:()i))", "(,1!,2;,3)", "(1;,1!,2)", "(,1;,1!,2)", "(,(1;2)!,3)", "(,1!,(2;3))", "(,1!,::)", "(,1!,2!)", "(()!()i1)"},
		"tables":     {"([])", "([]", "([]a)", "([]a:)", "([]:,1)", "([]a:,1", "([]a:,1))", "([]a:,1;)", "([];a:,1)", "([]a:,1;;b:,2)", "([]a:,1;b)", "([]a:,1;b:)", "([]a:1)", "([]a:::)", "([]a:{})", "([]a:([]b:,1))", "([]a:(,1!,2))", "([]a:,1;a:,2)", "([]a:,1;b:1 2)", "([]a:()i;b:,1)", "([]\"a\":,1)", "([]\"\":,1)", "([]9:,1)", "([]_:,1)", "([]b c:,1)", "([]\"b c:,1)", "([]b c\":,1)", "([]\"b\\x20c\":,1)", "([]\"\\x00\":,1)", "([]`a:,1)", "([]a::1 2)", "([]a:,1,b:,2)", "[]a:,1", "([a:,1])", "([a:,1]b:,2)", "([]a:,1;b:,2)x", "([]" + strings.Repeat("x", api.MaxSym+1) + ":,1)", "([]\"" + strings.Repeat(" ", api.MaxSym+1) + "\":,1)", "([]a:,1!)", "([]a:,(1;2))", "([]a:,1;\"a\":,2)"},
		"lambdas":    {"{", "}", "{}}", "{{}", "{}{}", "{}x", "x{}", `{"}`, `{"}"`, "{x}{y}", "{}1", "1{}", "({};{}", "{};{}", "({}};1)", "({{};1)", "(1;{)", ",{", "(,{!,1)", `({"};1)`, "([]a:,{)", "(,{}}!,1)"},
		"nothing":    {"::::", ":: ::", "::1", "1::", "(::)", ":", ",::", "(1 2;::)", "(::!,1)", "::;"},
	}
}

// TestReadWrong: P4.5, P4.7, and example 2.
func TestReadWrong(t *testing.T) {
	for _, l := range noTexts() {
		for _, s := range l {
			wantNoValue(t, s, api.ErrText)
		}
	}
}

// TestReadExamples: example 2.
func TestReadExamples(t *testing.T) {
	wantNoValue(t, "1  2", api.ErrText)
	wantNoValue(t, "(1)", api.ErrText)
	wantNoValue(t, "1.50", api.ErrText)
	wantRead(t, "101b", vector(api.KBool, 1, 0, 1))
}

// TestReadLong: P4.5.
func TestReadLong(t *testing.T) {
	for _, s := range []string{
		strings.Repeat(" ", api.MaxText+1), strings.Repeat("`", api.MaxText+1), strings.Repeat("1", api.MaxText) + "b", "{" + strings.Repeat("x", api.MaxText-1) + "}",
		strings.Repeat(",", api.MaxText+1), strings.Repeat("(", 1<<20), "1" + strings.Repeat(" 1", api.MaxText/2), "(,1!,{" + strings.Repeat("x", api.MaxText) + "})",
	} {
		wantNoValue(t, s, api.ErrLong)
		wantNoValue(t, s[:api.MaxText-4]+"\x00\xff)(", api.ErrText)
	}
	for _, s := range []string{
		strings.Repeat("`", api.MaxText), strings.Repeat("1", api.MaxText-1) + "b", "{" + strings.Repeat("x", api.MaxText-2) + "}", "11" + strings.Repeat(" 1", api.MaxText/2-1), ",0.1" + strings.Repeat(" 2.2", api.MaxText/4-1),
	} {
		is(t, "as long as may be", len(s), api.MaxText)
		v, e := text.Read(s)
		is(t, "as long as may be", e, api.OK)
		is(t, "there and back", wantText(v), s)
	}
}

// TestReadTooMuch: P4.5: texts of what has too many columns, or is too deep.
func TestReadTooMuch(t *testing.T) {
	wide := func(n int) string {
		var l []string
		for i := range n {
			l = append(l, "c"+strconv.Itoa(i)+":,1")
		}
		return "([]" + strings.Join(l, ";") + ")"
	}
	v, e := text.Read(wide(api.MaxColumns))
	is(t, "as many columns as may be", e, api.OK)
	is(t, "there and back", wantText(v), wide(api.MaxColumns))
	wantNoValue(t, wide(api.MaxColumns+1), api.ErrText)
	wantNoValue(t, wide(5000), api.ErrText)
	for _, open := range []string{",", "(", "([]a:", "(,1!,", "(1 2;", "((", "{", "`", "(,", ",(", "()", "([]\"b c\":,", "(();"} {
		s := strings.Repeat(open, api.MaxText/len(open))
		if _, e := text.Read(s); e != api.OK && e != api.ErrText {
			t.Fatal(open, e)
		}
	}
}

// TestReadDeep: P4.6: just as deep as a value may be, and one more.
func TestReadDeep(t *testing.T) {
	wrap := func(begin, inner, end string, times int) string {
		return strings.Repeat(begin, times) + inner + strings.Repeat(end, times)
	}
	for _, c := range []struct {
		begin, inner, end string
		a, b              int // its depth is a times how often it is wrapped, and b
	}{
		{",", "1", "", 1, 0}, {",", "`a", "", 1, 0}, {",", "1b", "", 1, 0}, {",", "1 2", "", 1, 1}, {",", "()", "", 1, 1}, {",", "()i", "", 1, 1}, {",", "{x}", "", 1, 1}, {",", "(1;`a)", "", 1, 2}, {",", "([]a:,1)", "", 1, 2}, {",", "(,1!,2)", "", 1, 2},
		{"(", "1 2", ";`a)", 1, 1}, {"(`a;", "()", ")", 1, 1}, {"(`a;", "{x}", ";1t)", 1, 1}, {"(,1!,", "()", ")", 2, 1}, {"(,", "1 2", "!,1)", 2, 1}, {"([]a:,", "()", ")", 2, 1}, {"(([]a:,", "()", ")!([]b:,1))", 3, 1}, {"(([]a:,1)!([]b:,", "1 2", "))", 3, 1},
	} {
		for times := range 2 * api.MaxDepth {
			s := wrap(c.begin, c.inner, c.end, times)
			depth := c.a*times + c.b
			if depth > api.MaxDepth {
				wantNoValue(t, s, api.ErrText)
				continue
			}
			v, e := text.Read(s)
			is(t, "Read of "+s, e, api.OK)
			is(t, "Print of it", text.Show(v), s)
			is(t, "its depth", value.Depth(v), max(1, depth))
		}
	}
}

// TestThereAndBack: P4.4, P4.5, P4.6, P4.7: values that are drawn; unlike ones have unlike texts.
func TestThereAndBack(t *testing.T) {
	whose := map[string]api.V{}
	for _, v := range drawn(41, 20000) {
		is(t, "a value", value.Check(v), api.OK)
		s := wantText(v)
		wantPrint(t, v, s)
		if w, ok := whose[s]; ok {
			is(t, "two of one text: "+s, value.Match(v, w), true)
		}
		whose[s] = v
	}
}

// wantOneForm asks that s is a value's text in the one form, or is not read.
func wantOneForm(t *testing.T, s string) bool {
	t.Helper()
	v, e := text.Read(s)
	if e != api.OK {
		wantNoValue(t, s, api.ErrText)
		return false
	}
	is(t, "a value: "+strconv.Quote(s), value.Check(v), api.OK)
	is(t, "its text", wantText(v), s)
	is(t, "its text, as printed", text.Show(v), s)
	return true
}

// changed is s with a byte left out, put in, or put in another's place.
func changed(draw func(int) int, s string) string {
	bytes := "()[]{};:!,`\"\\ 0123456789Ntdbxai._-"
	at := draw(len(s) + 1)
	c := string(bytes[draw(len(bytes))])
	switch kind := draw(4); {
	case kind == 0 || at == len(s):
		return s[:at] + c + s[at:]
	case kind == 1:
		return s[:at] + s[at+1:]
	case kind == 2:
		return s[:at] + s[draw(at+1):]
	}
	return s[:at] + c + s[at+1:]
}

// TestOneForm: P4.7: texts that are changed a little.
func TestOneForm(t *testing.T) {
	draw := draws(42)
	taken := 0
	for _, v := range drawn(43, 5000) {
		s := wantText(v)
		for range 10 {
			c := changed(draw, s)
			if wantOneForm(t, c) {
				taken++
			}
			wantOneForm(t, changed(draw, c))
		}
	}
	is(t, "some are taken", taken > 1000, true)
}

// TestOneFormPlain: P4.5, P4.7: all short texts of numbers, bools and symbols, held against their forms.
func TestOneFormPlain(t *testing.T) {
	whole := `(0|-?1[01]*|0N)`
	part := `(0\.0|-?(1[01]*\.0|(0|1[01]*)\.[01]{0,3}1)|0Nd)`
	row := func(one string) string { return one + `( ` + one + `)*` }
	form := regexp.MustCompile("^,*(" + row(whole) + "|" + row(whole+"t") + "|" + row(part) + "|[01]+b|(`([Ntbd][01Ntbd.]*)?)+)$")
	bools := 0
	for _, s := range short("01-.Ntbd ,`", 5) {
		is(t, "Read of "+s, wantOneForm(t, s), form.MatchString(s))
		if v, e := text.Read(s); e == api.OK && (v.T == api.KBool || v.T == -api.KBool) {
			bools++
		}
	}
	is(t, "bools", bools, 2+4+8+16+2)
}

// written is a text of P4.4's table: how many elements it has (of what is no sequence -1), and of which type it is an atom.
type written struct {
	s     string
	count int
	atom  string
}

// together are all texts of so many bytes that so many of these have, with ; between.
func together(of [][]written, size, parts int) [][]written {
	if parts == 0 {
		return map[bool][][]written{true: {nil}}[size == -1]
	}
	var l [][]written
	for first := 1; first < size+1; first++ {
		for _, x := range of[first] {
			for _, rest := range together(of, size-first-1, parts-1) {
				l = append(l, append([]written{x}, rest...))
			}
		}
	}
	return l
}

// several are the lists and dictionaries of so many bytes that have two parts or three.
func several(of [][]written, size int) []written {
	var l []written
	for parts := 2; parts <= 3; parts++ {
		for _, x := range together(of, size-2, parts) {
			texts, alike := []string{}, true
			for _, w := range x {
				texts = append(texts, w.s)
				alike = alike && w.atom != "" && w.atom == x[0].atom
			}
			if !alike {
				l = append(l, written{"(" + strings.Join(texts, ";") + ")", parts, ""})
			}
			if parts == 2 && x[0].count >= 0 && x[0].count == x[1].count {
				l = append(l, written{"(" + strings.Join(texts, "!") + ")", -1, ""})
			}
		}
	}
	return l
}

// nested are all texts of at most so many bytes that are made of brackets, the bool 1, and ints of ones.
func nested(most int) map[string]bool {
	of := make([][]written, most+1)
	all := map[string]bool{}
	for size := 1; size <= most; size++ {
		ones := strings.Repeat("1", size-1)
		l := []written{{ones + "1", -1, "i"}}
		switch size {
		case 1:
		case 2:
			l = append(l, written{"1b", -1, "b"}, written{"()", 0, ""})
		case 3:
			l = append(l, written{"()b", 0, ""}, written{"()i", 0, ""})
			fallthrough
		default:
			l = append(l, written{ones + "b", size - 1, ""})
		}
		for _, w := range of[size-1] {
			l = append(l, written{"," + w.s, 1, ""})
		}
		of[size] = append(l, several(of, size)...)
		for _, w := range of[size] {
			all[w.s] = true
		}
	}
	return all
}

// TestOneFormNested: P4.5, P4.7: all short texts of brackets, held against what their forms make.
func TestOneFormNested(t *testing.T) {
	want := nested(7)
	for _, s := range short("(;)!,1bi", 7) {
		_, e := text.Read(s)
		is(t, "Read of "+s, e == api.OK, want[s])
		delete(want, s)
	}
	is(t, "left", len(want), 0)
}

// TestOneFormTables: P4.7: short texts in a table's brackets.
func TestOneFormTables(t *testing.T) {
	form := regexp.MustCompile(`^(a[a1]*|"[:;,1()]"):,*(\(\)|,1+)$`)
	for _, s := range short(`a":;,1()`, 6) {
		is(t, s, wantOneForm(t, "([]"+s+")"), form.MatchString(s))
	}
}

// roomy is v in memory of its own, with spare room behind each list.
func roomy(v api.V) api.V {
	w := api.V{T: v.T, N: append(make([]int64, 0, len(v.N)+3), v.N...), S: append(make([]string, 0, len(v.S)+3), v.S...), L: make([]api.V, 0, len(v.L)+3)}
	for _, x := range v.L {
		w.L = append(w.L, roomy(x))
	}
	return w
}

// scribble writes over all that v has, spare room too.
func scribble(v api.V) {
	for i := range v.N[:cap(v.N)] {
		v.N[:cap(v.N)][i] = -77
	}
	for i := range v.S[:cap(v.S)] {
		v.S[:cap(v.S)][i] = "scribbled"
	}
	for i, x := range v.L[:cap(v.L)] {
		scribble(x)
		v.L[:cap(v.L)][i] = api.V{T: 77}
	}
}

// sameRoom asks whether a and b are alike in all fields, spare room too.
func sameRoom(a, b api.V) bool {
	if a.T != b.T || len(a.L) != len(b.L) || !slices.Equal(a.N[:cap(a.N)], b.N[:cap(b.N)]) || !slices.Equal(a.S[:cap(a.S)], b.S[:cap(b.S)]) {
		return false
	}
	return slices.EqualFunc(a.L[:cap(a.L)], b.L[:cap(b.L)], sameRoom)
}

// TestApart: rule 3: what is handed in is not changed, and what is answered is new each time.
func TestApart(t *testing.T) {
	for _, v := range drawn(44, 2000) {
		mine, copied := roomy(v), roomy(v)
		s, e := text.Print(mine)
		is(t, "Print", e, api.OK)
		is(t, "Show", text.Show(mine, mine), s+" "+s)
		is(t, "handed in", sameRoom(mine, copied), true)
		first, e := text.Read(s)
		is(t, "Read", e, api.OK)
		second, e := text.Read(s)
		is(t, "Read", e, api.OK)
		scribble(first)
		is(t, "apart", value.Match(second, v), true)
		wantRead(t, s, v)
		scribbleParts(t, second, v)
	}
}

// scribbleParts asks that no two lists of one answer share memory.
func scribbleParts(t *testing.T, v, was api.V) {
	t.Helper()
	for i := range v.L {
		scribble(v.L[i])
		for j := i + 1; j < len(v.L); j++ {
			is(t, "a part behind", value.Match(v.L[j], was.L[j]), true)
		}
	}
	is(t, "their names", slices.Equal(v.S, was.S), true)
}

// junk draws anything at all.
func junk(draw func(int) int, depth int) api.V {
	kinds := []int{0, 1, 2, 3, 4, 5, -1, -2, -3, -4, -5, 6, -6, 98, 99, 100, 101, -98, -101, math.MinInt, math.MaxInt, 0, 98, 99, 98, 99}
	v := api.V{T: kinds[draw(len(kinds))]}
	for range draw(3) {
		v.N = append(v.N, int64(draw(3)))
	}
	for range draw(3) {
		v.S = append(v.S, []string{"", "a", "{", "{}", "{}}", "a\x00"}[draw(6)])
	}
	for range draw(4) * min(depth, 1) {
		v.L = append(v.L, junk(draw, depth-1))
	}
	return v
}

// TestTotal: rule 1: no call panics, whatever it is given.
func TestTotal(t *testing.T) {
	draw := draws(45)
	all := "()[]{};:!,`\"\\ 01Ntdba._-\x00\xff"
	for range 20000 {
		v := junk(draw, draw(5))
		s, e := text.Print(v)
		if bad := value.Check(v); bad != api.OK {
			is(t, "Print of no value", e, bad)
		}
		if e != api.OK {
			is(t, "beside an error", s, "")
			is(t, "Show", text.Show(v), "?")
		}
		text.Number(v.T, int64(draw(9)))
		b := make([]byte, draw(12))
		for i := range b {
			b[i] = all[draw(len(all))]
		}
		wantOneForm(t, string(b))
		is(t, "Balanced", text.Balanced(string(b)), wantBalanced(string(b)))
		is(t, "Quote", text.Quote(string(b)), wantQuote(string(b)))
		is(t, "Symbol", text.Symbol(string(b)), wantSymbol(string(b)))
		if u, ok := text.Unquote(string(b)); ok {
			is(t, "Quote of Unquote", text.Quote(u), string(b))
		}
	}
}
