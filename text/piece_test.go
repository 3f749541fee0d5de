package text_test

import (
	"fmt"
	"math"
	"regexp"
	"strconv"
	"strings"
	"testing"

	"quiver/api"
	"quiver/text"
)

// TestQuote: P4.1: every byte.
func TestQuote(t *testing.T) {
	for i := range 256 {
		c := byte(i)
		want := string([]byte{c})
		if i < 0x20 || i >= 0x7f || i == 0x22 || i == 0x5c {
			want = fmt.Sprintf(`\x%x%x`, i/16, i%16)
		}
		is(t, "Quote", text.Quote(string([]byte{c})), `"`+want+`"`)
		is(t, "Quote, between others", text.Quote(string([]byte{'a', c, ' '})), `"a`+want+` "`)
	}
	for s, want := range map[string]string{
		"": `""`, "a": `"a"`, "b c": `"b c"`, "\n\"": `"\x0a\x22"`, `\`: `"\x5c"`, "\x00\xff": `"\x00\xff"`, "~\x7f": `"~\x7f"`, "\u00e9": `"\xc3\xa9"`, "'`": "\"'`\"",
	} {
		is(t, "Quote", text.Quote(s), want)
	}
}

// TestUnquote: P4.1, P4.8: just what Quote writes is read.
func TestUnquote(t *testing.T) {
	good := append(oddSymbols(), oddSources()...)
	for i := range 256 {
		good = append(good, string([]byte{byte(i)}), string([]byte{byte(i), 'x', byte(i)}))
	}
	for _, s := range append(good, strings.Repeat("\x01a", api.MaxText)) {
		got, ok := text.Unquote(text.Quote(s))
		is(t, "Unquote of Quote "+strconv.Quote(s), ok, true)
		is(t, "Unquote of Quote", got, s)
	}
	for _, s := range []string{
		"", `"`, "a", "ab", `"a`, `a"`, `"a"b`, `b"a"`, ` "a"`, `"a" `, `"a""`, `"""`, `""""`, `"a"b"`, "'a'", "`a`",
		`"\"`, `"\""`, `"\\"`, `"\n"`, `"\x"`, `"\x0"`, `"\x0g"`, `"\xg0"`, `"\x0A"`, `"\x0 "`, `"\X0a"`, `"\00a"`, `"\u000a"`, `"a\x0`, `"\x0"a`, `"\xx0a"`, `"x0a\"`,
		`"\x41"`, `"\x20"`, `"\x7e"`, `"\x21"`, `"\x5b"`, `"\x5d"`, "\"\n\"", "\"\x00\"", "\"\x1f\"", "\"\x7f\"", "\"\x80\"", "\"\xff\"", "\"\u00e9\"", `"\"x22"`, `"a\x7Fb"`,
	} {
		got, ok := text.Unquote(s)
		is(t, "Unquote of "+strconv.Quote(s), ok, false)
		is(t, "beside false", got, "")
	}
}

// TestUnquoteAll: P4.1: of all short texts those are read that a Quote is.
func TestUnquoteAll(t *testing.T) {
	form := regexp.MustCompile(`^"([ -!#-\[\]-~]|\\x([018-9a-f][0-9a-f]|22|5c|7f))*"$`)
	for _, s := range short(`"\x25c7fA`, 6) {
		got, ok := text.Unquote(s)
		is(t, "Unquote of "+s, ok, form.MatchString(s))
		if ok {
			is(t, "Quote of Unquote", text.Quote(got), s)
		}
	}
}

// short are all texts of at most so many of these bytes.
func short(of string, most int) []string {
	all, last := []string{""}, []string{""}
	for range most {
		var longer []string
		for _, s := range last {
			for _, c := range []byte(of) {
				longer = append(longer, s+string([]byte{c}))
			}
		}
		all, last = append(all, longer...), longer
	}
	return all
}

// TestPlain: P4.1.
func TestPlain(t *testing.T) {
	letter, other := regexp.MustCompile(`^[a-zA-Z]$`), regexp.MustCompile(`^[a-zA-Z0-9_.]$`)
	for i := range 256 {
		s := string([]byte{byte(i)})
		is(t, "one byte "+s, text.Plain(s), letter.MatchString(s))
		is(t, "the second byte "+s, text.Plain("a"+s), other.MatchString(s))
		is(t, "the third byte "+s, text.Plain("a0"+s), other.MatchString(s))
		is(t, "the first byte "+s, text.Plain(s+"a"), letter.MatchString(s))
	}
	for s, want := range map[string]bool{"": false, "a": true, "a.b_c9": true, "9a": false, "_a": false, ".a": false, "a b": false, "a\n": false, "\u00e9": false, "a\u00e9": false, strings.Repeat("x", api.MaxText): true, "a..": true, "A__": true} {
		is(t, "Plain "+s, text.Plain(s), want)
	}
}

// TestSymbol: P4.1.
func TestSymbol(t *testing.T) {
	for s, want := range map[string]string{"": "`", "a": "`a", "a.b_9": "`a.b_9", "b c": "`\"b c\"", "9": "`\"9\"", "_": "`\"_\"", ".": "`\".\"", "`": "`\"`\"", "a\x00": "`\"a\\x00\"", `"`: "`\"\\x22\"", "\xff": "`\"\\xff\"", strings.Repeat("x", 99): "`" + strings.Repeat("x", 99)} {
		is(t, "Symbol", text.Symbol(s), want)
	}
	for _, s := range oddSymbols() {
		is(t, "Symbol", text.Symbol(s), wantSymbol(s))
	}
}

// TestNumber: P4.2.
func TestNumber(t *testing.T) {
	for _, c := range []struct {
		n                      int64
		bools, ints, time, dec string
	}{
		{0, "0b", "0", "0t", "0.0"},
		{1, "1b", "1", "1t", "0.0001"},
		{-1, "-1b", "-1", "-1t", "-0.0001"},
		{7, "7b", "7", "7t", "0.0007"},
		{-10, "-10b", "-10", "-10t", "-0.001"},
		{100, "100b", "100", "100t", "0.01"},
		{1000, "1000b", "1000", "1000t", "0.1"},
		{-5000, "-5000b", "-5000", "-5000t", "-0.5"},
		{9999, "9999b", "9999", "9999t", "0.9999"},
		{-9999, "-9999b", "-9999", "-9999t", "-0.9999"},
		{10000, "10000b", "10000", "10000t", "1.0"},
		{-10000, "-10000b", "-10000", "-10000t", "-1.0"},
		{10001, "10001b", "10001", "10001t", "1.0001"},
		{15000, "15000b", "15000", "15000t", "1.5"},
		{-15000, "-15000b", "-15000", "-15000t", "-1.5"},
		{12340, "12340b", "12340", "12340t", "1.234"},
		{100000, "100000b", "100000", "100000t", "10.0"},
		{math.MaxInt64, "9223372036854775807b", "9223372036854775807", "9223372036854775807t", "922337203685477.5807"},
		{math.MinInt64 + 1, "-9223372036854775807b", "-9223372036854775807", "-9223372036854775807t", "-922337203685477.5807"},
		{math.MinInt64, "-9223372036854775808b", "0N", "0Nt", "0Nd"},
	} {
		for i, want := range []string{c.bools, c.ints, c.time, c.dec} {
			is(t, "Number", text.Number(numeric()[i], c.n), want)
			is(t, "Number of the negative", text.Number(-numeric()[i], c.n), want)
			is(t, "the test's own", wantNumber(numeric()[i], c.n), want)
		}
		for _, k := range []int{api.KList, api.KSym, -api.KSym, 6, -6, 7, api.KTable, -api.KTable, api.KDict, -api.KDict, api.KLambda, -api.KLambda, api.KNil, -api.KNil, math.MinInt, math.MaxInt} {
			is(t, "of another type", text.Number(k, c.n), "")
		}
	}
}

// TestNumbersUnlike: P4.8.
func TestNumbersUnlike(t *testing.T) {
	draw := draws(40)
	l := oddNumbers()
	for n := range int64(30000) {
		l = append(l, n-15000, n*10, int64(uint64(draw(1<<31))<<33|uint64(draw(1<<31))<<2))
	}
	for _, k := range numeric() {
		whose := map[string]int64{}
		for _, n := range l {
			s := text.Number(k, n)
			is(t, "Number", s, wantNumber(k, n))
			if m, ok := whose[s]; ok {
				is(t, "two of one text: "+s, m, n)
			}
			whose[s] = n
		}
	}
}

// TestBalanced: P4.3.
func TestBalanced(t *testing.T) {
	for _, s := range append(oddSources(), "{{{}}}", "{{}x{}}", `{""}`, `{"" ""}`, `{"{{{"}`, `{"\\\""}`, `{"\}"}`, `{"a\x22"}`, `{{"}"}}`, "{\n}", "{'}", "{`}", "{"+strings.Repeat("{}", api.MaxText)+"}", strings.Repeat("{", 1<<16)+strings.Repeat("}", 1<<16)) {
		is(t, "Balanced "+s, text.Balanced(s), true)
	}
	for _, s := range []string{
		"", "{", "}", "}{", "x", "x{}", "{}x", " {}", "{} ", "{}{}", "{}}", "{{}", "{}{", "{{}}}", "{{{}}", "}{}", "{}}{", "{}{}}", "{x}{y}", "{}{}{}", "()", "\"{}\"",
		`{"}`, `{"`, `{"}"`, `{""`, `{"{}`, `{"\"}`, `{"\"`, `{"\`, `{"\\}`, `{\"}`, `{"}""}`, `{}""`, `"}{"`, `{"a"}"}`, `{"{"`, `{{"}"}`, `{"\\"}"}`, `{}"`, `{"\\\"}`,
		strings.Repeat("{", 1<<16), strings.Repeat("}", 1<<16), "{" + strings.Repeat("{}", api.MaxText) + "}}",
	} {
		is(t, "Balanced "+strconv.Quote(s), text.Balanced(s), false)
	}
}

// wantBalanced writes an s for each string, and then leaves out pair by pair what is between the first byte and the last one.
func wantBalanced(s string) bool {
	s = regexp.MustCompile(`(?s)"(\\.|[^\\"])*"`).ReplaceAllString(s, "s")
	if strings.Contains(s, `"`) || !strings.HasPrefix(s, "{") || !strings.HasSuffix(s, "}") {
		return false
	}
	inner := regexp.MustCompile(`[^{}]`).ReplaceAllString(s[1:len(s)-1], "")
	for strings.Contains(inner, "{}") {
		inner = strings.ReplaceAll(inner, "{}", "")
	}
	return inner == ""
}

// TestBalancedAll: P4.3: all short texts.
func TestBalancedAll(t *testing.T) {
	for _, s := range short(`{}"\x`, 7) {
		is(t, "Balanced "+s, text.Balanced(s), wantBalanced(s))
	}
}
