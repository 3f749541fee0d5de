package lex_test

import (
	"math"
	"strconv"
	"strings"
	"testing"

	"quiver/api"
	"quiver/lex"
	"quiver/value"
)

// draws is a row of numbers that looks random, and is the same each time.
func draws(seed uint64) func(below int) int {
	return func(below int) int {
		seed = seed*6364136223846793005 + 1442695040888963407
		return int(seed>>33) % below
	}
}

func is[K comparable](t *testing.T, what string, got, want K) {
	t.Helper()
	if got != want {
		t.Fatalf("%.300s: %.300v, not %.300v", what, got, want)
	}
}

// The kinds of values, written out without the packages' help.
func vector(t int, n ...int64) api.V { return api.V{T: t, N: n} }
func symbols(s ...string) api.V      { return api.V{T: api.KSym, S: s} }
func atom(t int, n int64) api.V      { return api.V{T: -t, N: []int64{n}} }
func symbol(s string) api.V          { return api.V{T: -api.KSym, S: []string{s}} }
func ints(n ...int64) api.V          { return vector(api.KInt, n...) }
func one(n int64) api.V              { return atom(api.KInt, n) }
func decs(n ...int64) api.V          { return vector(api.KDec, n...) }
func dec(n int64) api.V              { return atom(api.KDec, n) }
func times(n ...int64) api.V         { return vector(api.KTime, n...) }
func time(n int64) api.V             { return atom(api.KTime, n) }
func bools(n ...int64) api.V         { return vector(api.KBool, n...) }

// tokens are those of s, which is right.
func tokens(t *testing.T, s string) []api.Token {
	t.Helper()
	l, e, at := lex.Lex(s)
	is(t, s+": error", e, api.OK)
	is(t, s+": place", at, 0)
	return l
}

// refused holds that s has an error, at a place, and that nothing else is told.
func refused(t *testing.T, s string, want api.Errno, place int) {
	t.Helper()
	l, e, at := lex.Lex(s)
	is(t, s+": error", e, want)
	is(t, s+": place", at, place)
	is(t, s+": no tokens", len(l), 0)
}

// texts holds that s has just these tokens; want has of each the letter of its kind, a colon, and its bytes in s, with ¦ between two.
func texts(t *testing.T, s, want string) {
	t.Helper()
	l := tokens(t, s)
	got := make([]string, len(l))
	for i, x := range l {
		got[i] = kinds[x.Kind:x.Kind+1] + ":" + s[x.At:x.End]
		if x.Kind != api.TokenText {
			is(t, s+": text", x.Text, s[x.At:x.End])
		}
		if x.Kind != api.TokenValue {
			is(t, s+": no value", value.Match(x.V, api.V{}), true)
		}
	}
	is(t, s, strings.Join(got, "\n"), strings.ReplaceAll(want, "¦", "\n"))
}

// kinds has a letter for each kind: value, name, text, verb, adverb, mark.
const kinds = "?vntbam"

// worth holds that s is one literal, of this value.
func worth(t *testing.T, s string, want api.V) {
	t.Helper()
	l := tokens(t, s)
	is(t, s+": one token", len(l), 1)
	x := l[0]
	is(t, s+": kind", x.Kind, api.TokenValue)
	is(t, s+": bytes", x.Text, strings.Trim(s, " "))
	is(t, s+": place", x.At, len(s)-len(strings.TrimLeft(s, " ")))
	is(t, s+": end", x.End, len(strings.TrimRight(s, " ")))
	if value.Check(x.V) != api.OK || !value.Match(x.V, want) {
		t.Fatalf("%.300s: %.300v, not %.300v", s, x.V, want)
	}
}

// TestKinds: section 14.1's table, kind by kind.
func TestKinds(t *testing.T) {
	for _, c := range [][2]string{
		{"", ""}, {" ", ""}, {"    ", ""},
		{"a", "n:a"}, {"Z", "n:Z"}, {"aZ_09z", "n:aZ_09z"}, {" a  b ", "n:a¦n:b"}, {"_a", "b:_¦n:a"}, {"a.b", "n:a¦b:.¦n:b"}, {"b", "n:b"}, {"a_", "n:a_"}, {"N0", "n:N0"},
		{"+-*%!&|<>=~,^#_?@$.", "b:+¦b:-¦b:*¦b:%¦b:!¦b:&¦b:|¦b:<¦b:>¦b:=¦b:~¦b:,¦b:^¦b:#¦b:_¦b:?¦b:@¦b:$¦b:."},
		{"'/\\", "a:'¦a:/¦a:\\"}, {"':/:\\:", "a:':¦a:/:¦a:\\:"}, {"/ :", "a:/¦m::"}, {"/::", "a:/:¦m::"}, {"/:::", "a:/:¦m:::"}, {"//:", "a:/¦a:/:"}, {"\\::/", "a:\\:¦m::¦a:/"},
		{"()[]{};:", "m:(¦m:)¦m:[¦m:]¦m:{¦m:}¦m:;¦m::"}, {"::", "m:::"}, {":::", "m:::¦m::"}, {"::::", "m:::¦m:::"}, {": :", "m::¦m::"}, {";:", "m:;¦m::"}, {"a:", "n:a¦m::"}, {"+:", "b:+¦m::"},
		{"\"\"", "t:\"\""}, {"\"a b\"", "t:\"a b\""}, {"a\"b\"c", "n:a¦t:\"b\"¦n:c"}, {"\"a\"\"b\"", "t:\"a\"¦t:\"b\""}, {"\"+\" \"`\"", "t:\"+\"¦t:\"`\""},
	} {
		texts(t, c[0], c[1])
	}
}

// TestSaid: the text of a TokenText is what Unquote tells; At and End go round the quotation marks.
func TestSaid(t *testing.T) {
	all := make([]byte, 256)
	for i := range all {
		all[i] = byte(i)
	}
	for _, c := range [][2]string{{`"a\x0ab"`, "a\nb"}, {`"\x22\x5c"`, `"\`}, {`"\x00\xff"`, "\x00\xff"}, {`""`, ""}, {`"1 2"`, "1 2"}, {quote(string(all)), string(all)}, {quote(strings.Repeat("s", 60000)), strings.Repeat("s", 60000)}} {
		l := tokens(t, " "+c[0]+"x")
		is(t, c[0], len(l), 2)
		is(t, c[0]+": kind", l[0].Kind, api.TokenText)
		is(t, c[0]+": text", l[0].Text, c[1])
		is(t, c[0]+": place", l[0].At, 1)
		is(t, c[0]+": end", l[0].End, 1+len(c[0]))
		is(t, c[0]+": no value", value.Match(l[0].V, api.V{}), true)
	}
}

// TestNumbers: P14.1: the forms of numbers, and what they are worth.
func TestNumbers(t *testing.T) {
	for s, want := range map[string]api.V{
		"0": one(0), "7": one(7), "007": one(7), "-7": one(-7), "-0": one(0), "-007": one(-7), "0N": one(math.MinInt64),
		"9223372036854775807": one(math.MaxInt64), "-9223372036854775807": one(-math.MaxInt64), strings.Repeat("0", 500) + "12": one(12),
		"0t": time(0), "5t": time(5), "-5t": time(-5), "0Nt": time(math.MinInt64), "9223372036854775807t": time(math.MaxInt64), "-9223372036854775807t": time(-math.MaxInt64), "010t": time(10),
		"0.0": dec(0), "1.5": dec(15000), "1.50": dec(15000), "1.5000": dec(15000), "1.05": dec(10500), "0.0001": dec(1), "-0.0001": dec(-1), "-0.5": dec(-5000), "-1.25": dec(-12500), "00.125": dec(1250), "0Nd": dec(math.MinInt64),
		"922337203685477.5807": dec(math.MaxInt64), "-922337203685477.5807": dec(-math.MaxInt64), "922337203685477.58": dec(math.MaxInt64 - 7),
		"1 2": ints(1, 2), "1   2": ints(1, 2), " 1 2 ": ints(1, 2), "1 -2": ints(1, -2), "-1 -2 3": ints(-1, -2, 3), "1 0N": ints(1, math.MinInt64), "0N 0N": ints(math.MinInt64, math.MinInt64),
		"5t 0Nt -5t": times(5, math.MinInt64, -5), "1.5 0Nd -0.5 2.0": decs(15000, math.MinInt64, -5000, 20000),
	} {
		worth(t, s, want)
	}
	worth(t, strings.Repeat("7 ", api.MaxText/2), ints(alike(7, api.MaxText/2)...))
}

func alike(n int64, count int) []int64 {
	l := make([]int64, count)
	for i := range l {
		l[i] = n
	}
	return l
}

// TestNoNumbers: P14.4, ErrNumber: what begins as a number does, and is none, or too great a one.
func TestNoNumbers(t *testing.T) {
	for _, s := range []string{
		"1x", "1_", "1_000", "1a2", "00N", "0n", "0NT", "0Nx", "0Ntt", "0Ndt", "0Nb", "1N", "0N.", "-0N", "-0Nt", "-0Nd", "1.", "1.t", "1.x", "1.2.3", "1..2", "1.23456", "1.00000", "1.5t", "1.5d", "1t.5", "1d", "1tt", "1t5", "5T", "0x10", "1e5", "2b", "12b", "102b", "1bb", "1b.", "1b_", "01b1", "1bx", "-1b", "-101b", "1.0b", "-1x", "-1.",
		"9223372036854775808", "-9223372036854775808", "9223372036854775808t", "-9223372036854775808t", "922337203685477.5808", "-922337203685477.5808", "922337203685478.0", "9223372036854775807.0", "18446744073709551616", "18446744073709551617.5", "99999999999999999999999999", strings.Repeat("9", 1000),
	} {
		refused(t, s, api.ErrNumber, 0)
		refused(t, "a: "+s+" ;", api.ErrNumber, 3)
		refused(t, "7 "+s, api.ErrNumber, 2)
		refused(t, "7t  "+s+" \x01", api.ErrNumber, 4)
	}
}

// TestSigns: P14.1: where a - belongs to a number.
func TestSigns(t *testing.T) {
	for _, c := range [][2]string{
		{"-1", "v:-1"}, {" -1", "v:-1"}, {"- 1", "b:-¦v:1"}, {"-a", "b:-¦n:a"}, {"-", "b:-"}, {"-.5", "b:-¦b:.¦v:5"}, {"-`a", "b:-¦v:`a"}, {"-0.5", "v:-0.5"},
		{"1-2", "v:1¦b:-¦v:2"}, {"1 -2", "v:1 -2"}, {"1 - 2", "v:1¦b:-¦v:2"}, {"1- 2", "v:1¦b:-¦v:2"}, {"1 -2-3", "v:1 -2¦b:-¦v:3"}, {"1 -2 -3-4 -5", "v:1 -2 -3¦b:-¦v:4 -5"},
		{"a-1", "n:a¦b:-¦v:1"}, {"a -1", "n:a¦v:-1"}, {"a_-1", "n:a_¦b:-¦v:1"}, {"a.-1", "n:a¦b:.¦v:-1"},
		{"--1", "b:-¦v:-1"}, {"---1", "b:-¦b:-¦v:-1"}, {"1--1", "v:1¦b:-¦v:-1"}, {"1 --1", "v:1¦b:-¦v:-1"}, {"+1-2", "b:+¦v:1¦b:-¦v:2"}, {"(1-2", "m:(¦v:1¦b:-¦v:2"},
		{"+-1", "b:+¦v:-1"}, {"_-1", "b:_¦v:-1"}, {".-1", "b:.¦v:-1"}, {"$-1", "b:$¦v:-1"}, {"/-1", "a:/¦v:-1"}, {"'-1", "a:'¦v:-1"}, {"\\:-1", "a:\\:¦v:-1"},
		{"(-1", "m:(¦v:-1"}, {"[-1", "m:[¦v:-1"}, {"{-1", "m:{¦v:-1"}, {";-1", "m:;¦v:-1"}, {":-1", "m::¦v:-1"}, {"::-1", "m:::¦v:-1"}, {"a:-1", "n:a¦m::¦v:-1"},
		{")-1", "m:)¦b:-¦v:1"}, {"]-1", "m:]¦b:-¦v:1"}, {"}-1", "m:}¦b:-¦v:1"}, {") -1", "m:)¦v:-1"}, {"(1)-1", "m:(¦v:1¦m:)¦b:-¦v:1"},
		{"\"a\"-1", "t:\"a\"¦b:-¦v:1"}, {"\"-\"-1", "t:\"-\"¦b:-¦v:1"}, {"\";\" -1", "t:\";\"¦v:-1"}, {"`a-1", "v:`a¦b:-¦v:1"}, {"`a_-1", "v:`a_¦b:-¦v:1"}, {"`a.-1", "v:`a.¦b:-¦v:1"}, {"`-1", "v:`¦b:-¦v:1"}, {"` -1", "v:`¦v:-1"},
		{"1b-1", "v:1b¦b:-¦v:1"}, {"1b -1", "v:1b¦v:-1"}, {"()i-1", "v:()i¦b:-¦v:1"}, {"()-1", "m:(¦m:)¦b:-¦v:1"}, {"()x-1", "m:(¦m:)¦n:x¦b:-¦v:1"},
	} {
		texts(t, c[0], c[1])
	}
}

// TestApart: P14.1: only blanks keep the numbers of a vector apart.
func TestApart(t *testing.T) {
	for _, c := range [][2]string{
		{"1 2+3 4", "v:1 2¦b:+¦v:3 4"}, {"1 2 a", "v:1 2¦n:a"}, {"1 2`a", "v:1 2¦v:`a"}, {"1 `a 2", "v:1¦v:`a¦v:2"}, {"1 (2", "v:1¦m:(¦v:2"}, {"1;2", "v:1¦m:;¦v:2"}, {"1\"\"2", "v:1¦t:\"\"¦v:2"}, {"1 .5", "v:1¦b:.¦v:5"}, {"a1 2", "n:a1¦v:2"}, {"1 ()i 2", "v:1¦v:()i¦v:2"},
		{"1 2 ", "v:1 2"}, {"f 1 2", "n:f¦v:1 2"}, {"(1 2)3", "m:(¦v:1 2¦m:)¦v:3"},
	} {
		texts(t, c[0], c[1])
	}
}

// TestMixed: P14.4: numbers of unlike types in one vector; where both apply, ErrNumber.
func TestMixed(t *testing.T) {
	for _, c := range []struct {
		s  string
		at int
	}{{"1.5 2", 4}, {"1 2.5", 2}, {"1 2t", 2}, {"5t 6", 3}, {"5t 0N", 3}, {"1.0 0N", 4}, {"0Nd 0Nt", 4}, {"0N 0Nd", 3}, {"1 2 3 -4t 5 6x", 6}, {"1   2.0", 4}, {"x+1.5  -2", 7}, {"1 1.5 2x", 2}} {
		refused(t, c.s, api.ErrMixed, c.at)
	}
	refused(t, "1 1.5x", api.ErrNumber, 2)
	refused(t, "1.5 9223372036854775808", api.ErrNumber, 4)
	texts(t, "1.5+2", "v:1.5¦b:+¦v:2")
	texts(t, "1.5;2", "v:1.5¦m:;¦v:2")
}

// TestBools: P14.2.
func TestBools(t *testing.T) {
	for s, want := range map[string]api.V{"0b": atom(api.KBool, 0), "1b": atom(api.KBool, 1), "101b": bools(1, 0, 1), "00b": bools(0, 0), " 10b ": bools(1, 0)} {
		worth(t, s, want)
	}
	long := strings.Repeat("0", api.MaxText-2) + "1"
	is(t, "as many as there is room for", len(long)+1, api.MaxText)
	n := alike(0, api.MaxText-1)
	n[len(n)-1] = 1
	worth(t, long+"b", bools(n...))
	for _, c := range [][2]string{
		{"101b 5", "v:101b¦v:5"}, {"5 101b", "v:5¦v:101b"}, {"1 2 1b 3 4", "v:1 2¦v:1b¦v:3 4"}, {"1b 0b", "v:1b¦v:0b"}, {"1b`a", "v:1b¦v:`a"}, {"1b(", "v:1b¦m:("}, {"1b\"\"", "v:1b¦t:\"\""}, {"1b-", "v:1b¦b:-"}, {"x1b", "n:x1b"}, {"1 b", "v:1¦n:b"}, {"1.5 1b", "v:1.5¦v:1b"}, {"- 1b", "b:-¦v:1b"},
	} {
		texts(t, c[0], c[1])
	}
}

// TestSymbols: P14.3.
func TestSymbols(t *testing.T) {
	m := strings.Repeat("m", api.MaxSym)
	for s, want := range map[string]api.V{
		"`": symbol(""), "`a": symbol("a"), "`a_b.9Z": symbol("a_b.9Z"), "`a.": symbol("a."), "`\"\"": symbol(""), "`\"a\"": symbol("a"), "`\"b c\"": symbol("b c"), "`\"\\x22\\xff\"": symbol("\"\xff"), "`\"1\"": symbol("1"), "`\"`\"": symbol("`"),
		"`a`b": symbols("a", "b"), "``": symbols("", ""), "`a`": symbols("a", ""), "`\"b c\"`a``\"\"": symbols("b c", "a", "", ""), "`" + m + "`\"" + m + "\"": symbols(m, m), "`\"" + strings.Repeat("\\xff", api.MaxSym) + "\"": symbol(strings.Repeat("\xff", api.MaxSym)),
		strings.Repeat("`", api.MaxCount): symbols(make([]string, api.MaxCount)...),
	} {
		worth(t, s, want)
	}
	for _, c := range [][2]string{
		{"`a `b", "v:`a¦v:`b"}, {"` a", "v:`¦n:a"}, {"`1", "v:`¦v:1"}, {"`1b", "v:`¦v:1b"}, {"`_a", "v:`¦b:_¦n:a"}, {"`.a", "v:`¦b:.¦n:a"}, {"`a+`b", "v:`a¦b:+¦v:`b"}, {"`a\"b\"", "v:`a¦t:\"b\""}, {"`\"a\"\"b\"", "v:`\"a\"¦t:\"b\""}, {"`\"a\"b", "v:`\"a\"¦n:b"}, {"`\"a\"`b 1", "v:`\"a\"`b¦v:1"}, {"`a:`b", "v:`a¦m::¦v:`b"}, {"` \"a\"", "v:`¦t:\"a\""}, {"a`b", "n:a¦v:`b"},
	} {
		texts(t, c[0], c[1])
	}
}

// TestEmpty: P14.3: vectors without elements.
func TestEmpty(t *testing.T) {
	for s, want := range map[string]api.V{"()b": bools(), "()i": ints(), "()s": symbols(), "()t": times(), "()d": decs(), "  ()d ": decs()} {
		worth(t, s, want)
		texts(t, strings.Trim(s, " ")+"x", "m:(¦m:)¦n:"+strings.Trim(s, " ()")+"x")
	}
	for _, c := range [][2]string{
		{"() i", "m:(¦m:)¦n:i"}, {"( )i", "m:(¦m:)¦n:i"}, {"()", "m:(¦m:)"}, {"()x", "m:(¦m:)¦n:x"}, {"()I", "m:(¦m:)¦n:I"}, {"()ii", "m:(¦m:)¦n:ii"}, {"()i0", "m:(¦m:)¦n:i0"}, {"()i_", "m:(¦m:)¦n:i_"}, {"()iZ", "m:(¦m:)¦n:iZ"},
		{"()i.", "v:()i¦b:."}, {"()i()s", "v:()i¦v:()s"}, {"()i,() i", "v:()i¦b:,¦m:(¦m:)¦n:i"}, {"()i`a", "v:()i¦v:`a"}, {"()i\"\"", "v:()i¦t:\"\""}, {"()1", "m:(¦m:)¦v:1"}, {"f()i", "n:f¦v:()i"}, {"(()i)", "m:(¦v:()i¦m:)"}, {"()()", "m:(¦m:)¦m:(¦m:)"}, {"()i 1", "v:()i¦v:1"}, {"1 ()i", "v:1¦v:()i"}, {"(", "m:("},
	} {
		texts(t, c[0], c[1])
	}
}

// TestNoTokens: P14.4, ErrLex: the bytes that begin no token.
func TestNoTokens(t *testing.T) {
	for c := range 256 {
		b := string([]byte{byte(c)})
		if c >= ' ' && c <= '~' {
			_, e, _ := lex.Lex(b)
			if e == api.ErrLex {
				t.Fatalf("%q begins a token", b)
			}
			continue
		}
		for _, ahead := range []string{"", "a", "a ", "1 2 ", "1", "`", "`a", "\"\"", "()i", "()", "/", ":", "1b"} {
			refused(t, ahead+b, api.ErrLex, len(ahead))
			refused(t, ahead+b+"1x", api.ErrLex, len(ahead))
		}
	}
}

// TestNoTexts: P14.4, ErrString: texts that do not end, or are not in Quote's form.
func TestNoTexts(t *testing.T) {
	for _, s := range []string{`"`, `"a`, `"a\"`, `"\"`, `"\x4"`, `"\x41"`, `"\x0A"`, `"\n"`, `"\\"`, `"\x"`, `"\x0`, "\"\t\"", "\"\x7f\"", "\"\x00\"", "\"\xc3\xa4\"", `"\"a"`, `"\X0a"`, `"\x20"`} {
		refused(t, s, api.ErrString, 0)
		refused(t, "a "+s, api.ErrString, 2)
		refused(t, "\"a\""+s, api.ErrString, 3)
		refused(t, "`"+s, api.ErrString, 1)
		refused(t, "`a`"+s, api.ErrString, 3)
		refused(t, "`\"b\"`"+s+" 1x", api.ErrString, 5)
	}
}

// TestBadSymbols: P14.4: symbols that are too long, or have the byte 0, at their backquote; of both, too long.
func TestBadSymbols(t *testing.T) {
	long := strings.Repeat("s", api.MaxSym+1)
	for _, s := range []string{long, quote(long), quote(strings.Repeat("\x00", api.MaxSym+1)), quote(strings.Repeat("\x01", 10000))} {
		refused(t, "`"+s, api.ErrLong, 0)
		refused(t, "x `a``"+s+"`\"", api.ErrLong, 5)
	}
	for _, s := range []string{"\x00", "a\x00", "\x00a", strings.Repeat("a", api.MaxSym-1) + "\x00"} {
		refused(t, "`"+quote(s), api.ErrLex, 0)
		refused(t, "x `a``"+quote(s)+"1x", api.ErrLex, 5)
	}
	is(t, "names may be longer", tokens(t, long)[0].Text, long)
	is(t, "texts may have it", tokens(t, quote("\x00"))[0].Text, "\x00")
}

// TestLong: P14.4: a text of more than MaxText bytes, ahead of all else.
func TestLong(t *testing.T) {
	is(t, "as long as may be", len(tokens(t, strings.Repeat("a", api.MaxText))[0].Text), api.MaxText)
	is(t, "blanks", len(tokens(t, strings.Repeat(" ", api.MaxText))), 0)
	for _, s := range []string{"a", " ", "\x00", "`", "1", "1x ", "+", "\""} {
		refused(t, strings.Repeat(s, api.MaxText/len(s)+1), api.ErrLong, 0)
	}
}

// TestMany: P14.4: ErrMany stands at the token that is one too many, behind all faults within it, be they further on.
func TestMany(t *testing.T) {
	full := strings.Repeat("+ ", api.MaxTokens-1) + ";"
	is(t, "as many as may be", len(tokens(t, full)), api.MaxTokens)
	is(t, "and blanks", len(tokens(t, full+"   ")), api.MaxTokens)
	is(t, "one token of many", len(tokens(t, full[:len(full)-1]+"1 2 3 -4")), api.MaxTokens)
	n := len(full)
	for _, s := range []string{"+", "a", "1", "1 2 3", "-1", "`a", "`a`b", "``", "\"\"", "()i", "1b", "/:", "::", "(", "1 \"", "1 1b 1x", "`a \"", "a\x01", "`\x01", "-x 1y", "1 - 2x"} {
		refused(t, full+s, api.ErrMany, n)
		refused(t, full+"  "+s, api.ErrMany, n+2)
	}
	for _, c := range []struct {
		s    string
		want api.Errno
		at   int
	}{{"1x", api.ErrNumber, 0}, {"1 2 3x", api.ErrNumber, 4}, {"1 2.5", api.ErrMixed, 2}, {"\"", api.ErrString, 0}, {"`\"", api.ErrString, 1}, {"`a`\"b", api.ErrString, 3}, {"`a`" + strings.Repeat("s", 65), api.ErrLong, 2}, {"`a`\"\\x00\"", api.ErrLex, 2}, {"\x01", api.ErrLex, 0}, {"\xff", api.ErrLex, 0}} {
		refused(t, full+c.s, c.want, n+c.at)
	}
	refused(t, "1x"+full+"+", api.ErrNumber, 0)
}

// TestFirst: P14.4: of several faults the first one by its place.
func TestFirst(t *testing.T) {
	refused(t, "1x 1.5 2 \"", api.ErrNumber, 0)
	refused(t, "1.5 2 1x \"", api.ErrMixed, 4)
	refused(t, "\"a 1x", api.ErrString, 0)
	refused(t, "a\x01\"", api.ErrLex, 1)
	refused(t, "`\"\\x00\"`\"", api.ErrLex, 0)
	refused(t, "`a`\"\\x00", api.ErrString, 3)
	refused(t, "1 2 \x01 1x", api.ErrLex, 4)
}

// TestJoin: P14.5.
func TestJoin(t *testing.T) {
	is(t, "of none", lex.Join(), "")
	is(t, "of one", lex.Join(api.Token{Kind: api.TokenName, Text: "a"}), "a")
	is(t, "of a text", lex.Join(api.Token{Kind: api.TokenText, Text: "a\n\"\\"}), `"a\x0a\x22\x5c"`)
	is(t, "of an empty text", lex.Join(api.Token{Kind: api.TokenText}, api.Token{Kind: api.TokenVerb, Text: "+"}), `"" +`)
	is(t, "text alone counts", lex.Join(api.Token{Kind: api.TokenValue, At: 7, End: 3, Text: "1  2", V: one(5)}, api.Token{Kind: 99, Text: "\"?"}, api.Token{}, api.Token{Kind: -1}), "1  2 \"?  ")
	is(t, "of all kinds", lex.Join(tokens(t, "a:f'\"b c\";`a`b  1  2")...), "a : f ' \"b c\" ; `a`b 1  2")
}

// TestWord: P14.5.
func TestWord(t *testing.T) {
	for _, s := range []string{"a", "Z", "a1", "a_", "aZ_09", "mod", "b", "N", strings.Repeat("w", api.MaxText+1)} {
		is(t, s, lex.Word(s), true)
	}
	for _, s := range []string{"", " ", "_", "_a", "1", "1a", "0b", "a ", " a", "a b", "a.b", "a.", "`a", "a:", "\"a\"", "a-b", "ä", "aä", "a\x00", "\x00", "+", "()i", "@", "[", "`", "{", "a/", "a@", "a[", "a`", "a{"} {
		is(t, s, lex.Word(s), false)
	}
	for c := range 256 {
		b := byte(c)
		letter := b >= 'a' && b <= 'z' || b >= 'A' && b <= 'Z'
		is(t, "first "+strconv.Itoa(c), lex.Word(string([]byte{b})), letter)
		is(t, "second "+strconv.Itoa(c), lex.Word(string([]byte{'q', b, 'q'})), letter || b >= '0' && b <= '9' || b == '_')
	}
}

// TestExamples: section 14.4.
func TestExamples(t *testing.T) {
	texts(t, "a:1 -2+b", "n:a¦m::¦v:1 -2¦b:+¦n:b")
	is(t, "one value", value.Match(tokens(t, "a:1 -2+b")[2].V, ints(1, -2)), true)
	texts(t, "x-1", "n:x¦b:-¦v:1")
	texts(t, "{x+y}/1 2", "m:{¦n:x¦b:+¦n:y¦m:}¦a:/¦v:1 2")
	refused(t, "1.5 2", api.ErrMixed, 4)
	worth(t, "`a`\"b c\"", symbols("a", "b c"))
	refused(t, "\"a", api.ErrString, 0)
	refused(t, "1x", api.ErrNumber, 0)
	worth(t, "101b", bools(1, 0, 1))
	worth(t, "()i", ints())
	texts(t, "() i", "m:(¦m:)¦n:i")
	texts(t, "1 - 2", "v:1¦b:-¦v:2")
	texts(t, "a -1", "n:a¦v:-1")
	texts(t, "a-1", "n:a¦b:-¦v:1")
}
