package text_test

import (
	"fmt"
	"math"
	"math/big"
	"slices"
	"strconv"
	"strings"
	"testing"

	"quiver/api"
	"quiver/text"
	"quiver/value"
)

// draws is a row of numbers that looks random, and is the same each time.
func draws(seed uint64) func(below int) int {
	return func(below int) int {
		seed = seed*6364136223846793005 + 1442695040888963407
		return int(seed>>33) % below
	}
}

func is[K comparable](t *testing.T, what string, got, want K) {
	t.Helper()
	if got != want {
		t.Fatalf("%.300s: %.300v, not %.300v", what, got, want)
	}
}

// The kinds of values, written out without the packages' help.
func vector(t int, n ...int64) api.V { return api.V{T: t, N: n} }
func symbols(s ...string) api.V      { return api.V{T: api.KSym, S: s} }
func atom(t int, n int64) api.V      { return api.V{T: -t, N: []int64{n}} }
func symbol(s string) api.V          { return api.V{T: -api.KSym, S: []string{s}} }
func list(l ...api.V) api.V          { return api.V{T: api.KList, L: l} }
func dict(k, v api.V) api.V          { return api.V{T: api.KDict, L: []api.V{k, v}} }
func lambda(s string) api.V          { return api.V{T: api.KLambda, S: []string{s}} }
func nothing() api.V                 { return api.V{T: api.KNil} }
func ints(n ...int64) api.V          { return vector(api.KInt, n...) }
func one(n int64) api.V              { return atom(api.KInt, n) }
func names(s ...string) []string     { return s }
func table(s []string, l ...api.V) api.V {
	return api.V{T: api.KTable, S: s, L: l}
}

func numeric() []int { return []int{api.KBool, api.KInt, api.KTime, api.KDec} }

// nest is v in so many lists.
func nest(v api.V, lists int) api.V {
	for range lists {
		v = list(v)
	}
	return v
}

// The text of a value, worked out another way than by the package: P4.4's table, line by line.

func wantNumber(t int, n int64) string {
	null := n == math.MinInt64
	switch max(t, -t) {
	case api.KBool:
		return fmt.Sprintf("%db", n)
	case api.KInt:
		return map[bool]string{true: "0N", false: fmt.Sprint(n)}[null]
	case api.KTime:
		return map[bool]string{true: "0Nt", false: fmt.Sprint(n) + "t"}[null]
	}
	if null {
		return "0Nd"
	}
	s := new(big.Rat).SetFrac64(n, 10000).FloatString(4)
	for strings.HasSuffix(s, "0") && !strings.HasSuffix(s, ".0") {
		s = s[:len(s)-1]
	}
	return s
}

func wantQuote(s string) string {
	q := `"`
	for _, c := range []byte(s) {
		if c < 0x20 || c > 0x7e || c == '"' || c == '\\' {
			q += fmt.Sprintf(`\x%02x`, c)
		} else {
			q += string(rune(c))
		}
	}
	return q + `"`
}

func wantName(s string) string {
	plain := s != "" && !strings.ContainsAny(s[:1], "0123456789_.")
	for _, c := range []byte(s) {
		plain = plain && strings.IndexByte("abcdefghijklmnopqrstuvwxyzABCDEFGHIJKLMNOPQRSTUVWXYZ0123456789_.", c) >= 0
	}
	if plain {
		return s
	}
	return wantQuote(s)
}

func wantSymbol(s string) string {
	if s == "" {
		return "`"
	}
	return "`" + wantName(s)
}

func wantAtoms(v api.V) []string {
	var l []string
	for _, n := range v.N {
		l = append(l, wantNumber(v.T, n))
	}
	for _, s := range v.S {
		l = append(l, wantSymbol(s))
	}
	return l
}

func wantParts(l []api.V) []string {
	var texts []string
	for _, x := range l {
		texts = append(texts, wantText(x))
	}
	return texts
}

func wantText(v api.V) string {
	switch v.T {
	case api.KNil:
		return "::"
	case api.KLambda:
		return v.S[0]
	case api.KDict:
		return "(" + wantText(v.L[0]) + "!" + wantText(v.L[1]) + ")"
	case api.KTable:
		var columns []string
		for i, s := range v.S {
			columns = append(columns, wantName(s)+":"+wantText(v.L[i]))
		}
		return "([]" + strings.Join(columns, ";") + ")"
	case api.KList:
		if len(v.L) == 1 {
			return "," + wantText(v.L[0])
		}
		return "(" + strings.Join(wantParts(v.L), ";") + ")"
	}
	l := wantAtoms(v)
	switch {
	case len(l) == 0:
		return map[int]string{api.KBool: "()b", api.KInt: "()i", api.KSym: "()s", api.KTime: "()t", api.KDec: "()d"}[v.T]
	case v.T < 0:
		return l[0]
	case len(l) == 1:
		return "," + l[0]
	case v.T == api.KBool:
		return strings.ReplaceAll(strings.Join(l, ""), "b", "") + "b"
	case v.T == api.KSym:
		return strings.Join(l, "")
	}
	return strings.Join(l, " ")
}

// wantPrint asks that v's text is that, and that it is read as v.
func wantPrint(t *testing.T, v api.V, want string) {
	t.Helper()
	s, e := text.Print(v)
	is(t, "Print of "+want, e, api.OK)
	is(t, "Print", s, want)
	wantRead(t, want, v)
}

func wantRead(t *testing.T, s string, want api.V) {
	t.Helper()
	v, e := text.Read(s)
	is(t, "Read of "+s, e, api.OK)
	is(t, "Read of "+s, value.Match(v, want), true)
}

func wantNoText(t *testing.T, v api.V, want api.Errno) {
	t.Helper()
	s, e := text.Print(v)
	is(t, fmt.Sprint("Print of ", v.T), e, want)
	is(t, "beside an error", s, "")
}

func wantNoValue(t *testing.T, s string, want api.Errno) {
	t.Helper()
	v, e := text.Read(s)
	is(t, "Read of "+strconv.Quote(s), e, want)
	is(t, "beside an error", v.T == 0 && v.N == nil && v.S == nil && v.L == nil, true)
}

// oddSymbols are symbols of every way to be written.
func oddSymbols() []string {
	return []string{"", "a", "b", "Z9", "a_b.c", "z.", "A_", " ", "b c", "9", "_a", ".a", "-", "a-b", "`", "``", `"`, `\`, `\x41`, "a:b", "(", ")", ";", "!", ",", "{", "}", "\n", "\t", "\x01", "\x1f", "\x7e", "\x7f", "\x80", "\xff", "\u00e9", "0N", "1b", strings.Repeat("x", api.MaxSym), strings.Repeat("\xff", api.MaxSym)}
}

func oddNumbers() []int64 {
	return []int64{math.MinInt64, math.MinInt64 + 1, -20000, -10001, -10000, -9999, -5000, -10, -1, 0, 1, 2, 9, 10, 11, 99, 100, 500, 1000, 5000, 9990, 9999, 10000, 10001, 10010, 10100, 11000, 12345, 15000, 100000, 1234500, math.MaxInt64 - 1, math.MaxInt64}
}

func oddSources() []string {
	return []string{"{}", "{x}", "{x+y}", "{[a;b]a+b}", "{{x}y}", "{{}{}}", `{"}"}`, `{"{"}`, `{"\"}"}`, `{"\\"}`, "{`a!;:)(}", "{ }", "{\x00\xff\n}", `{\}`}
}

// column draws a vector or a list of so many elements, at most so deep.
func column(draw func(int) int, count, depth int) api.V {
	t := draw(6)
	if depth < 2 {
		t = 1 + draw(5)
	}
	v := api.V{T: t}
	for i := range count {
		switch t {
		case api.KList:
			v.L = append(v.L, anyValue(draw, depth-1))
			if i == 0 && v.L[0].T < 0 {
				v.L[0] = list()
			}
		case api.KSym:
			v.S = append(v.S, oddSymbols()[draw(len(oddSymbols()))])
		case api.KBool:
			v.N = append(v.N, int64(draw(2)))
		default:
			v.N = append(v.N, oddNumbers()[draw(len(oddNumbers()))])
		}
	}
	return v
}

func anyTable(draw func(int) int, count, depth int) api.V {
	v := api.V{T: api.KTable}
	for range 1 + draw(3) {
		name := oddSymbols()[1+draw(len(oddSymbols())-1)]
		if !slices.Contains(v.S, name) {
			v.S = append(v.S, name)
			v.L = append(v.L, column(draw, count, depth-1))
		}
	}
	return v
}

// anyValue draws a value that is not nothing, at most so deep.
func anyValue(draw func(int) int, depth int) api.V {
	count := draw(4)
	kind := draw(9)
	switch {
	case kind < 2:
		return column(draw, count, depth)
	case kind < 4 || depth < 3:
		v := column(draw, 1, 1)
		v.T = -v.T
		return v
	case kind < 5:
		return lambda(oddSources()[draw(len(oddSources()))])
	case kind < 7:
		return anyTable(draw, count, depth)
	case kind < 8:
		return dict(column(draw, count, depth-1), column(draw, count, depth-1))
	}
	return dict(anyTable(draw, count, depth-1), anyTable(draw, count, depth-1))
}

func drawn(seed uint64, many int) []api.V {
	draw := draws(seed)
	l := []api.V{nothing()}
	for range many {
		l = append(l, anyValue(draw, 1+draw(6)))
	}
	return l
}
