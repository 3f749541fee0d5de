package lex_test

import (
	"fmt"
	"math"
	"math/big"
	"regexp"
	"slices"
	"strings"
	"testing"

	"quiver/api"
	"quiver/lex"
	"quiver/text"
	"quiver/value"
)

// quote is a text in quotation marks: P4.1, written another way than by package text.
func quote(s string) string {
	var b strings.Builder
	for i := range len(s) {
		if c := s[i]; c < 0x20 || c > 0x7e || c == '"' || c == '\\' {
			fmt.Fprintf(&b, "\\x%02x", c)
		} else {
			b.WriteByte(c)
		}
	}
	return `"` + b.String() + `"`
}

// What section 14.1 says, by patterns; \A is where one looks.
var (
	figure  = regexp.MustCompile(`\A-?[0-9][A-Za-z0-9_.]*`)
	isInt   = regexp.MustCompile(`\A-?[0-9]+\z|\A0N\z`)
	isTime  = regexp.MustCompile(`\A-?[0-9]+t\z|\A0Nt\z`)
	isDec   = regexp.MustCompile(`\A-?[0-9]+\.[0-9]{1,4}\z|\A0Nd\z`)
	isBools = regexp.MustCompile(`\A[01]+b\z`)
	word    = regexp.MustCompile(`\A[A-Za-z][A-Za-z0-9_]*`)
	plain   = regexp.MustCompile(`\A[A-Za-z][A-Za-z0-9_.]*`)
	quoted  = regexp.MustCompile(`\A"([ !#-\[\]-~]|\\x([01][0-9a-f]|22|5c|7f|[89a-f][0-9a-f]))*"`)
	empty   = regexp.MustCompile(`\A\(\)[bistd]`)
	goesOn  = regexp.MustCompile(`\A[A-Za-z0-9_]`)
	verb    = regexp.MustCompile(`\A[-+*%!&|<>=~,^#_?@$.]`)
	adverb  = regexp.MustCompile(`\A['/\\]:?`)
	mark    = regexp.MustCompile(`\A(::|[()\[\]{};:])`)
	nulls   = regexp.MustCompile(`\A0N`)
)

// judge cuts a text as the chapter says it, pattern by pattern.
type judge struct {
	s    string
	l    []api.Token
	e    api.Errno
	at   int
	stop bool
}

func (j *judge) fault(e api.Errno, at int) int {
	j.e, j.at, j.stop, j.l = e, at, true, nil
	return at
}

func (j *judge) put(kind, at, end int, v api.V) int {
	if len(j.l) == api.MaxTokens {
		return j.fault(api.ErrMany, at)
	}
	j.l = append(j.l, api.Token{Kind: kind, At: at, End: end, Text: j.s[at:end], V: v})
	return end
}

// signed: whether a - at a place may begin a number.
func (j *judge) signed(at int) bool {
	if at == 0 || j.s[at-1] == ' ' {
		return true
	}
	for _, x := range j.l {
		if x.End == at {
			return x.Kind == api.TokenVerb || x.Kind == api.TokenAdverb || x.Kind == api.TokenMark && x.Text != ")" && x.Text != "]" && x.Text != "}"
		}
	}
	return false
}

// numberAt is the bytes of a number, good or bad, that begins at a place; "" if none does.
func (j *judge) numberAt(at int) string {
	f := figure.FindString(j.s[at:])
	if isBools.MatchString(f) || strings.HasPrefix(f, "-") && !j.signed(at) {
		return ""
	}
	return f
}

func numberType(f string) int {
	switch {
	case isInt.MatchString(f):
		return api.KInt
	case isTime.MatchString(f):
		return api.KTime
	case isDec.MatchString(f):
		return api.KDec
	}
	return 0
}

// numberWorth is what a number is worth; false beyond the numbers.
func numberWorth(f string) (int64, bool) {
	if nulls.MatchString(f) {
		return math.MinInt64, true
	}
	r, ok := new(big.Rat).SetString(strings.TrimSuffix(f, "t"))
	if !ok {
		panic(f)
	}
	if numberType(f) == api.KDec {
		r.Mul(r, big.NewRat(10000, 1))
	}
	most := new(big.Rat).SetInt64(math.MaxInt64)
	return r.Num().Int64(), new(big.Rat).Abs(r).Cmp(most) <= 0
}

func (j *judge) numbers(at int) int {
	v, end, next := api.V{}, at, at
	for f := j.numberAt(next); f != ""; f = j.numberAt(next) {
		k := numberType(f)
		if k == 0 {
			return j.fault(api.ErrNumber, next)
		}
		n, ok := numberWorth(f)
		if !ok {
			return j.fault(api.ErrNumber, next)
		}
		if v.T != 0 && k != v.T {
			return j.fault(api.ErrMixed, next)
		}
		v.T, v.N = k, append(v.N, n)
		end = next + len(f)
		next = end
		for strings.HasPrefix(j.s[next:], " ") {
			next++
		}
		if next == end {
			break
		}
	}
	if len(v.N) == 1 {
		v.T = -v.T
	}
	return j.put(api.TokenValue, at, end, v)
}

func (j *judge) symbols(at int) int {
	v, end := symbols(), at
	for strings.HasPrefix(j.s[end:], "`") {
		rest := j.s[end+1:]
		q := quoted.FindString(rest)
		name := plain.FindString(rest)
		size := max(len(q), len(name))
		if q != "" {
			name = unquoted(q)
		} else if strings.HasPrefix(rest, `"`) {
			return j.fault(api.ErrString, end+1)
		}
		if len(name) > api.MaxSym {
			return j.fault(api.ErrLong, end)
		}
		if strings.Contains(name, "\x00") {
			return j.fault(api.ErrLex, end)
		}
		v.S = append(v.S, name)
		end += 1 + size
	}
	if len(v.S) == 1 {
		v.T = -v.T
	}
	return j.put(api.TokenValue, at, end, v)
}

// unquoted is what a text in the pattern's form says.
func unquoted(q string) string {
	var b []byte
	for i := 1; i < len(q)-1; i++ {
		c := q[i]
		if c == '\\' {
			fmt.Sscanf(q[i+2:i+4], "%02x", &c)
			i += 3
		}
		b = append(b, c)
	}
	return string(b)
}

func (j *judge) quotedText(at int) int {
	q := quoted.FindString(j.s[at:])
	if q == "" {
		return j.fault(api.ErrString, at)
	}
	end := j.put(api.TokenText, at, at+len(q), api.V{})
	if !j.stop {
		j.l[len(j.l)-1].Text = unquoted(q)
	}
	return end
}

// next cuts the token at a place, and is the place behind it.
func (j *judge) next(at int) int {
	rest := j.s[at:]
	f := figure.FindString(rest)
	switch {
	case j.numberAt(at) != "":
		return j.numbers(at)
	case isBools.MatchString(f):
		return j.put(api.TokenValue, at, at+len(f), boolsOf(f))
	case rest[0] == '`':
		return j.symbols(at)
	case rest[0] == '"':
		return j.quotedText(at)
	case empty.MatchString(rest) && !goesOn.MatchString(rest[3:]):
		return j.put(api.TokenValue, at, at+3, api.V{T: strings.Index("?bistd", rest[2:3])})
	}
	for kind, p := range []*regexp.Regexp{api.TokenName: word, api.TokenVerb: verb, api.TokenAdverb: adverb, api.TokenMark: mark} {
		if p != nil && p.MatchString(rest) {
			return j.put(kind, at, at+len(p.FindString(rest)), api.V{})
		}
	}
	return j.fault(api.ErrLex, at)
}

func boolsOf(f string) api.V {
	v := bools()
	for _, c := range f[:len(f)-1] {
		v.N = append(v.N, int64(c-'0'))
	}
	if len(v.N) == 1 {
		v.T = -v.T
	}
	return v
}

func judged(s string) ([]api.Token, api.Errno, int) {
	j := judge{s: s}
	for at := 0; at < len(s) && !j.stop; {
		if s[at] == ' ' {
			at++
		} else {
			at = j.next(at)
		}
	}
	return j.l, j.e, j.at
}

// right holds Lex of s against the judge, and P14.6 and P14.7 of what it tells.
func right(t *testing.T, s string) {
	t.Helper()
	want, e, at := judged(s)
	got, e2, at2 := lex.Lex(s)
	if e2 != e || at2 != at || len(got) != len(want) {
		t.Fatalf("%q: %d tokens, error %d at %d, not %d tokens, error %d at %d", s, len(got), e2, at2, len(want), e, at)
	}
	for i, x := range got {
		like(t, s, x, want[i])
		is(t, s+": at", x.At, want[i].At)
		is(t, s+": end", x.End, want[i].End)
	}
	if e == api.OK {
		covered(t, s, got)
		again(t, s, got)
	}
}

// like holds that two tokens are the same but for places.
func like(t *testing.T, s string, got, want api.Token) {
	t.Helper()
	is(t, s+": kind", got.Kind, want.Kind)
	is(t, s+": text", got.Text, want.Text)
	if !value.Match(got.V, want.V) {
		t.Fatalf("%q: %v, not %v", s, got.V, want.V)
	}
	if got.Kind == api.TokenValue {
		is(t, s+": a value", value.Check(got.V), api.OK)
	}
}

// covered: P14.6: in order, apart, and all bytes but blanks.
func covered(t *testing.T, s string, l []api.Token) {
	t.Helper()
	end := 0
	for _, x := range l {
		if x.At < end || x.End <= x.At || x.End > len(s) {
			t.Fatalf("%q: a token from %d to %d behind one to %d", s, x.At, x.End, end)
		}
		is(t, s+": between", strings.Trim(s[end:x.At], " "), "")
		end = x.End
	}
	is(t, s+": behind", strings.Trim(s[end:], " "), "")
}

// again: P14.7.
func again(t *testing.T, s string, l []api.Token) {
	t.Helper()
	joined := lex.Join(l...)
	if len(joined) > api.MaxText {
		return
	}
	back, e, _ := lex.Lex(joined)
	is(t, joined+": there and back", e, api.OK)
	is(t, joined+": tokens", len(back), len(l))
	for i, x := range back {
		like(t, joined, x, l[i])
	}
}

// TestShort: every text of up to so many bytes over small alphabets, each byte of which may stand in another one's way.
func TestShort(t *testing.T) {
	for _, c := range []struct {
		bytes string
		size  int
	}{{"1-b .", 7}, {"0Nt d-", 6}, {"1.0 t`", 6}, {"`a\"\\x0", 6}, {"()i .1", 6}, {":/+-1)", 6}, {"a_1-` ", 6}, {"[-1];}\"", 5}, {"'\\:{ 1-", 5}, {"\x00\xff1`\" b", 5}, {"b0()-s", 6}} {
		for size := range c.size + 1 {
			each(c.bytes, size, func(s string) { right(t, s) })
		}
	}
}

// each goes over all texts of so many of the bytes.
func each(alphabet string, size int, do func(s string)) {
	s := make([]byte, size)
	var fill func(at int)
	fill = func(at int) {
		if at == size {
			do(string(s))
			return
		}
		for i := range len(alphabet) {
			s[at] = alphabet[i]
			fill(at + 1)
		}
	}
	fill(0)
}

// TestPairs: every byte beside every one.
func TestPairs(t *testing.T) {
	for a := range 256 {
		for b := range 256 {
			s := string([]byte{byte(a), byte(b)})
			right(t, s)
			right(t, "1"+s+"1")
			right(t, "`"+s+" -1")
		}
	}
}

// TestDrawn: pieces of the language beside each other, as they come.
func TestDrawn(t *testing.T) {
	draw := draws(14)
	pieces := []string{" ", " ", " ", "  ", "1", "-1", "-", "2", "1.5", "-0.5", "0N", "0Nt", "0Nd", "5t", "0b", "101b", "a", "xs", "a_1", "`", "`a", "`b.c", "`\"b c\"", "\"\"", "\"a\\x00\"", "()i", "()", "()d", "(", ")", "[", "]", "{", "}", ";", ":", "::", "+", "*", "_", ".", "?", "/", "\\", "'", "/:", "9223372036854775807", "9223372036854775808", "922337203685477.5807", "922337203685477.5808", "1x", "1.23456", "\"", "`\"", "\x01", "`\"\\x00\"", "-0N", quote("\"\\\n"), "`" + strings.Repeat("s", 64), "`" + strings.Repeat("s", 65)}
	for range 60000 {
		var b strings.Builder
		good := draw(3) > 0
		for range 1 + draw(20) {
			p := pieces[draw(len(pieces))]
			if _, e, _ := judged(p); good && e != api.OK {
				continue
			}
			b.WriteString(p)
			if draw(2) == 0 {
				b.WriteString(" ")
			}
		}
		right(t, b.String())
	}
}

// TestBytes: any bytes end with tokens, or an error with its place.
func TestBytes(t *testing.T) {
	draw := draws(15)
	for range 20000 {
		b := make([]byte, draw(40))
		for i := range b {
			b[i] = byte(draw(256))
			if draw(4) > 0 {
				b[i] = byte(' ' + draw(96))
			}
		}
		right(t, string(b))
	}
}

// TestLiterals: P14.8: what Print tells of atoms, and of vectors, is one literal.
func TestLiterals(t *testing.T) {
	draw := draws(16)
	literal := func(v api.V) {
		t.Helper()
		s, e := text.Print(v)
		is(t, "print", e, api.OK)
		worth(t, s, v)
	}
	edges := []int64{0, 1, -1, 9, 10, -10, 4999, 5000, -5000, 10000, -10001, 99999, math.MaxInt64, math.MinInt64, math.MinInt64 + 1, math.MaxInt64 / 10000, -math.MaxInt64 / 10000}
	names := []string{"", "a", "aZ_.9", "a.", "b c", "\"", "\\", "`", "\x01\xff", "1", "_", ".", "0N", strings.Repeat("s", 64), strings.Repeat("\xe9", 64)}
	for _, k := range []int{api.KInt, api.KTime, api.KDec} {
		literal(vector(k))
		for _, n := range edges {
			literal(atom(k, n))
			for _, m := range edges {
				literal(vector(k, n, m))
			}
		}
	}
	for _, v := range []api.V{bools(), bools(0, 1), bools(1, 1, 1), atom(api.KBool, 0), atom(api.KBool, 1), symbols()} {
		literal(v)
	}
	for _, a := range names {
		literal(symbol(a))
		for _, b := range names {
			literal(symbols(a, b))
		}
	}
	for range 3000 {
		count := 2 + draw(30)
		v := vector([]int{api.KBool, api.KInt, api.KTime, api.KDec}[draw(4)])
		u := symbols()
		for range count {
			n := edges[draw(len(edges))] >> draw(60)
			if v.T == api.KBool {
				n = int64(draw(2))
			}
			v.N = append(v.N, n)
			u.S = append(u.S, names[draw(len(names))])
		}
		literal(v)
		literal(u)
	}
}

// TestApartMemory: rule 3: what one answer has is shared with no other part of it, nor with another answer; tokens that are joined stay as they are.
func TestApartMemory(t *testing.T) {
	s := "1 2 3 +`a`b`c 101b 5 `x 1b 2.5 3.5;1 2 3"
	l := tokens(t, s)
	want, _, _ := judged(s)
	for i := range l {
		for j := range l[:i] {
			n, m := l[j].V.N, l[j].V.S
			for k := range n[:cap(n)] {
				n[:cap(n)][k] = 99
			}
			for k := range m[:cap(m)] {
				m[:cap(m)][k] = "zz"
			}
		}
		like(t, s, l[i], want[i])
	}
	clear(l[:cap(l)])
	right(t, s)
	room := append(make([]api.Token, 0, 64), tokens(t, "a \"b\" 1 2")...)
	was := slices.Clone(room[:cap(room)])
	is(t, "joined", lex.Join(room...), "a \"b\" 1 2")
	for i, x := range room[:cap(room)] {
		like(t, "as it was", x, was[i])
		is(t, "at", x.At, was[i].At)
		is(t, "end", x.End, was[i].End)
	}
}
