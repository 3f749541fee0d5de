package symtab_test

import (
	"bytes"
	"encoding/binary"
	"hash/crc32"
	"slices"
	"strconv"
	"strings"
	"testing"

	"quiver/api"
	"quiver/octet"
	"quiver/symtab"
)

// draws is a row of numbers that looks random, and is the same each time.
func draws(seed uint64) func(below int) int {
	return func(below int) int {
		seed = seed*6364136223846793005 + 1442695040888963407
		return int(seed>>33) % below
	}
}

func is[K comparable](t *testing.T, what string, got, want K) {
	t.Helper()
	if got != want {
		t.Fatalf("%.300s: %.300v, not %.300v", what, got, want)
	}
}

func same[K comparable](t *testing.T, what string, got, want []K) {
	t.Helper()
	if !slices.Equal(got, want) {
		t.Fatalf("%.300s: %.300v, not %.300v", what, got, want)
	}
}

// frame is a frame of that load, laid by the tests themselves.
func frame(load string) []byte {
	b := binary.BigEndian.AppendUint32(nil, uint32(len(load)))
	b = append(b, load...)
	return binary.LittleEndian.AppendUint32(b, crc32.Checksum(b, crc32.MakeTable(crc32.Castagnoli)))
}

// laid is the bytes that a table of "" and these symbols has. (No symbol is so long that its length has two bytes.)
func laid(l ...string) []byte {
	var b []byte
	for _, s := range l {
		b = append(b, frame(string(rune(len(s)))+s)...)
	}
	return b
}

// holder is what a table and a file have in common.
type holder interface {
	Intern(l ...string) ([]int, []byte, api.Errno)
	Number(s string) (int, bool)
	Symbol(n int) (string, api.Errno)
	Len() int
	All() []string
	Bytes() []byte
	Copy() *symtab.Table
	Enumerate(v api.V) ([]int64, api.Errno)
	Vector(l []int64) (api.V, api.Errno)
}

// has asks for all that a table tells: it has "" and these symbols.
func has(t *testing.T, what string, x holder, l ...string) {
	t.Helper()
	all := append([]string{""}, l...)
	same(t, what, x.All(), all)
	is(t, what, x.Len(), len(all))
	same(t, what, x.Bytes(), laid(l...))
	for i, s := range all {
		n, known := x.Number(s)
		is(t, what, n, i)
		is(t, what, known, true)
		got, e := x.Symbol(i)
		is(t, what, got, s)
		is(t, what, e, api.OK)
	}
	for _, n := range []int{-1, -1 << 63, len(all), 1<<63 - 1} {
		s, e := x.Symbol(n)
		is(t, what, s, "")
		is(t, what, e, api.ErrSymbol)
	}
	n, known := x.Number("no such")
	is(t, what, n, 0)
	is(t, what, known, false)
}

func holding(t *testing.T, l ...string) *symtab.Table {
	t.Helper()
	x := symtab.New()
	_, _, e := x.Intern(l...)
	is(t, "intern", e, api.OK)
	return x
}

// many is so many symbols that are all unlike.
func many(n int) []string {
	l := make([]string, n)
	for i := range l {
		l[i] = strconv.Itoa(i)
	}
	return l
}

// odd is symbols that may be: the longest, and bytes that are no text's.
func odd() []string {
	return []string{strings.Repeat("z", api.MaxSym), "\x01", "\xff\xfe", "a b", "é", "`", "A", "a", "\n"}
}

// wrong is texts that no symbols are.
func wrong() []string {
	return []string{strings.Repeat("z", api.MaxSym+1), "\x00", "a\x00", "\x00a", "a\x00b", strings.Repeat("\x00", 1000), strings.Repeat("é", 33)}
}

// TestExamples: the chapter's examples.
func TestExamples(t *testing.T) {
	x := symtab.New()
	l, b, e := x.Intern("a", "", "b", "a")
	is(t, "intern", e, api.OK)
	same(t, "numbers", l, []int{1, 0, 2, 1})
	same(t, "the bytes of two frames", b, append(frame("\x01a"), frame("\x01b")...))
	s, e := x.Symbol(2)
	is(t, "symbol", s, "b")
	is(t, "symbol", e, api.OK)
	s, e = x.Symbol(3)
	is(t, "symbol", s, "")
	is(t, "symbol", e, api.ErrSymbol)
	v, e := x.Vector([]int64{1, 0})
	is(t, "vector", e, api.OK)
	is(t, "vector", v.T, api.KSym)
	same(t, "vector", v.S, []string{"a", ""})
	y, at, e := symtab.Load(b[:len(b)-1])
	is(t, "load", e, api.OK)
	is(t, "load", at, len(frame("\x01a")))
	has(t, "load", y, "a")
}

// TestNew: P5.1.
func TestNew(t *testing.T) {
	has(t, "new", symtab.New())
	x := symtab.New()
	x.Intern("a")
	has(t, "another", symtab.New())
}

// TestLoad: P5.2.
func TestLoad(t *testing.T) {
	for _, l := range [][]string{nil, {"a"}, {"b", "a"}, odd()} {
		p := laid(l...)
		kept := bytes.Clone(p)
		x, at, e := symtab.Load(p)
		is(t, "load", e, api.OK)
		is(t, "place", at, len(p))
		has(t, "load", x, l...)
		same(t, "what is handed in", p, kept)
		clear(p)
		has(t, "it is not kept", x, l...)
		n, b, e := x.Intern("later")
		is(t, "later", e, api.OK)
		same(t, "later", n, []int{len(l) + 1})
		same(t, "later", b, laid("later"))
	}
}

// TestLoadTorn: P5.2: what is behind the whole frames is not read, be it cut off, injured or anything.
func TestLoadTorn(t *testing.T) {
	head := laid("ab", "c")
	last := laid("xyz")
	tails := [][]byte{{0}, {0, 0, 0}, {0, 16, 0, 1}, bytes.Repeat([]byte{255}, 40), make([]byte, 8)[:7]}
	for i := range last {
		tails = append(tails, last[:i])
		if i >= 4 {
			hurt := bytes.Clone(last)
			hurt[i] ^= 1 << (i % 8)
			tails = append(tails, append(hurt, laid("more")...))
		}
	}
	for _, tail := range tails {
		x, at, e := symtab.Load(append(bytes.Clone(head), tail...))
		is(t, "load", e, api.OK)
		is(t, "place", at, len(head))
		has(t, "load", x, "ab", "c")
	}
	x, at, e := symtab.Load(last[:5])
	is(t, "nothing whole", e, api.OK)
	is(t, "nothing whole", at, 0)
	has(t, "nothing whole", x)
}

// TestLoadWrong: P5.2: frames that are whole, but of no table.
func TestLoadWrong(t *testing.T) {
	loads := []string{"", "\x00", "\x01c", "\x01a", "\x02a", "\x01ab", "\x81\x00x", "\x80\x00", "\x80", "\x01x\x01y", "\x01x\x00",
		"\x02x\x00", "\x01\x00", "\x41" + strings.Repeat("z", 65), "\xff\xff\xff\xff\xff\xff\xff\xff\xff\x01", strings.Repeat("\xff", 12),
		string(octet.PutText(nil, strings.Repeat("z", 5000))), string(laid("x"))}
	for _, load := range loads {
		for _, tail := range [][]byte{nil, {1, 2, 3}, laid("q")} {
			p := append(laid("a", "c"), frame(load)...)
			x, at, e := symtab.Load(append(p, tail...))
			is(t, strconv.Quote(load), e, api.ErrTable)
			is(t, strconv.Quote(load), at, 0)
			is(t, strconv.Quote(load), x, nil)
		}
	}
	_, _, e := symtab.Load(frame(""))
	is(t, "at the beginning", e, api.ErrTable)
}

// TestLoadMany: P5.2.
func TestLoadMany(t *testing.T) {
	l := many(api.MaxSymbols)
	p := laid(l...)
	whole := len(p) - len(laid(l[api.MaxSymbols-1]))
	for _, end := range []int{whole, len(p) - 1} {
		x, at, e := symtab.Load(p[:end])
		is(t, "as many as may be", e, api.OK)
		is(t, "as many as may be", at, whole)
		is(t, "as many as may be", x.Len(), api.MaxSymbols)
		is(t, "as many as may be", bytes.Equal(x.Bytes(), p[:whole]), true)
	}
	x, at, e := symtab.Load(p)
	is(t, "one more", e, api.ErrTable)
	is(t, "one more", at, 0)
	is(t, "one more", x, nil)
}

// TestLoadAnything: P5.2: whatever is read, it is the table of just these bytes, or an error.
func TestLoadAnything(t *testing.T) {
	draw := draws(52)
	good, bad := 0, 0
	for range 4000 {
		var p []byte
		for range draw(4) {
			p = append(p, frame(string([]byte{byte(draw(3)), byte(draw(5)), byte(draw(5))}[:draw(4)]))...)
		}
		for range draw(3) {
			p = append(p, byte(draw(256)))
		}
		x, at, e := symtab.Load(p)
		if e != api.OK {
			bad++
			is(t, "no table", e, api.ErrTable)
			continue
		}
		good++
		same(t, "its bytes", x.Bytes(), p[:at])
	}
	is(t, "both were drawn", good > 500 && bad > 500, true)
}

// TestIntern: P5.3.
func TestIntern(t *testing.T) {
	x := symtab.New()
	for _, c := range []struct {
		l, fresh []string
		want     []int
	}{
		{nil, nil, nil},
		{[]string{""}, nil, []int{0}},
		{[]string{"b", "a", "b", ""}, []string{"b", "a"}, []int{1, 2, 1, 0}},
		{[]string{"a", "b"}, nil, []int{2, 1}},
		{[]string{"a", "c", "d", "c"}, []string{"c", "d"}, []int{2, 3, 4, 3}},
		{odd(), slices.DeleteFunc(odd(), func(s string) bool { return s == "a" }), []int{5, 6, 7, 8, 9, 10, 11, 2, 12}},
	} {
		kept := slices.Clone(c.l)
		n, b, e := x.Intern(c.l...)
		is(t, "intern", e, api.OK)
		same(t, "numbers", n, c.want)
		same(t, "bytes", b, laid(c.fresh...))
		same(t, "what is handed in", c.l, kept)
	}
	is(t, "all", x.Len(), 13)
}

// TestInternWrong: P5.3.
func TestInternWrong(t *testing.T) {
	x := holding(t, "a", "b")
	for _, s := range wrong() {
		for _, l := range [][]string{{s}, {"new", s}, {s, "new"}, {"a", s, "new"}} {
			n, b, e := x.Intern(l...)
			is(t, "wrong", e, api.ErrSymbol)
			is(t, "wrong", n == nil && b == nil, true)
			has(t, "nothing is new", x, "a", "b")
		}
	}
	n, _, _ := x.Intern("new")
	same(t, "the next one", n, []int{3})
}

// TestInternMany: P5.3.
func TestInternMany(t *testing.T) {
	l := many(api.MaxSymbols)
	x := holding(t, l[:api.MaxSymbols-3]...)
	n, b, e := x.Intern("x", "5", "y", "x", "z")
	is(t, "too many", e, api.ErrMany)
	is(t, "too many", n == nil && b == nil, true)
	is(t, "too many", x.Len(), api.MaxSymbols-2)
	for _, s := range []string{"x", "y", "z"} {
		_, known := x.Number(s)
		is(t, "nothing is new", known, false)
	}
	_, _, e = x.Intern("x", "y", "z", "\x00")
	is(t, "no symbol is told first", e, api.ErrSymbol)
	n, b, e = x.Intern("y", "5", "x", "y", "")
	is(t, "just enough", e, api.OK)
	same(t, "just enough", n, []int{api.MaxSymbols - 2, 6, api.MaxSymbols - 1, api.MaxSymbols - 2, 0})
	same(t, "just enough", b, laid("y", "x"))
	_, _, e = x.Intern("z")
	is(t, "full", e, api.ErrMany)
	n, b, e = x.Intern("x", "y")
	is(t, "those that are there", e, api.OK)
	same(t, "those that are there", n, []int{api.MaxSymbols - 1, api.MaxSymbols - 2})
	is(t, "those that are there", len(b), 0)
	is(t, "full", x.Len(), api.MaxSymbols)
	_, _, e = symtab.New().Intern(l...)
	is(t, "all at once", e, api.ErrMany)
	_, _, e = symtab.New().Intern(l[1:]...)
	is(t, "all but one at once", e, api.OK)
}

// TestAnswers: P5.4: answers are memory of their own.
func TestAnswers(t *testing.T) {
	x := holding(t, "a", "b")
	n, b, _ := x.Intern("c", "a")
	n[0], b[0] = 9, 9
	l := x.All()
	l[1] = "x"
	_ = append(l[:2], "y")
	clear(x.Bytes())
	m, _ := x.Enumerate(api.V{T: api.KSym, S: []string{"c", "b"}})
	m[0] = 7
	v, _ := x.Vector(m[1:])
	v.S[0] = "z"
	has(t, "as it was", x, "a", "b", "c")
}

// TestCopy: P5.4.
func TestCopy(t *testing.T) {
	x := holding(t, "a", "b")
	y := x.Copy()
	has(t, "a copy", y, "a", "b")
	x.Intern("c")
	y.Intern("d", "c")
	has(t, "apart", x, "a", "b", "c")
	has(t, "apart", y, "a", "b", "d", "c")
	has(t, "a copy of it", y.Copy().Copy(), "a", "b", "d", "c")
	has(t, "of a new one", symtab.New().Copy())
}

// asksNil asks for all that a nil Table answers.
func asksNil(t *testing.T, x holder) {
	t.Helper()
	for _, l := range [][]string{nil, {"a"}, {"\x00"}} {
		n, b, e := x.Intern(l...)
		is(t, "intern", n == nil && b == nil, true)
		is(t, "intern", e, api.ErrNone)
	}
	n, known := x.Number("")
	is(t, "number", n, 0)
	is(t, "number", known, false)
	for _, i := range []int{0, -1} {
		s, e := x.Symbol(i)
		is(t, "symbol", s, "")
		is(t, "symbol", e, api.ErrNone)
	}
	is(t, "len", x.Len(), 0)
	is(t, "all", len(x.All()), 0)
	is(t, "bytes", len(x.Bytes()), 0)
	is(t, "copy", x.Copy(), nil)
	for _, k := range []int{api.KSym, api.KInt} {
		m, e := x.Enumerate(api.V{T: k})
		is(t, "enumerate", m == nil, true)
		is(t, "enumerate", e, api.ErrNone)
	}
	for _, m := range [][]int64{nil, {0}, {-1}} {
		v, e := x.Vector(m)
		is(t, "vector", v.T == 0 && v.N == nil && v.S == nil && v.L == nil, true)
		is(t, "vector", e, api.ErrNone)
	}
}

// TestNil: P5.4.
func TestNil(t *testing.T) {
	asksNil(t, (*symtab.Table)(nil))
}

// TestEnumerate: P5.5.
func TestEnumerate(t *testing.T) {
	x := holding(t, "a", "b")
	for _, c := range []struct {
		v    api.V
		want []int64
		e    api.Errno
	}{
		{api.V{T: api.KSym}, nil, api.OK},
		{api.V{T: api.KSym, S: []string{"b", "", "a", "b"}}, []int64{2, 0, 1, 2}, api.OK},
		{api.V{T: -api.KSym, S: []string{"b"}}, []int64{2}, api.OK},
		{api.V{T: -api.KSym}, nil, api.OK},
		{api.V{T: -api.KSym, S: []string{"b", "a"}, N: []int64{1}, L: []api.V{{}}}, []int64{2, 1}, api.OK},
		{api.V{T: api.KSym, S: []string{"a", "c"}}, nil, api.ErrSymbol},
		{api.V{T: -api.KSym, S: []string{"c"}}, nil, api.ErrSymbol},
		{api.V{T: api.KSym, S: []string{"a", "\x00"}}, nil, api.ErrSymbol},
		{api.V{}, nil, api.ErrType},
		{api.V{T: api.KInt, S: []string{"a"}}, nil, api.ErrType},
		{api.V{T: -api.KInt, N: []int64{1}}, nil, api.ErrType},
		{api.V{T: api.KTable, S: []string{"a"}}, nil, api.ErrType},
		{api.V{T: api.KLambda, S: []string{"c"}}, nil, api.ErrType},
		{api.V{T: -1 << 63}, nil, api.ErrType},
	} {
		l, e := x.Enumerate(c.v)
		is(t, "enumerate", e, c.e)
		same(t, "enumerate", l, c.want)
		is(t, "beside an error", e == api.OK || l == nil, true)
	}
	has(t, "nothing is new", x, "a", "b")
}

// TestVector: P5.5.
func TestVector(t *testing.T) {
	x := holding(t, "a", "b")
	for _, c := range []struct {
		l    []int64
		want []string
		e    api.Errno
	}{
		{nil, nil, api.OK}, {[]int64{0}, []string{""}, api.OK}, {[]int64{2, 0, 1, 2}, []string{"b", "", "a", "b"}, api.OK},
		{[]int64{3}, nil, api.ErrSymbol}, {[]int64{1, -1}, nil, api.ErrSymbol}, {[]int64{api.Null, 1}, nil, api.ErrSymbol},
		{[]int64{1<<63 - 1}, nil, api.ErrSymbol}, {[]int64{1 << 32}, nil, api.ErrSymbol}, {[]int64{1<<32 + 1}, nil, api.ErrSymbol},
	} {
		kept := slices.Clone(c.l)
		v, e := x.Vector(c.l)
		is(t, "vector", e, c.e)
		same(t, "vector", v.S, c.want)
		is(t, "nothing else", v.N == nil && v.L == nil, true)
		is(t, "of symbols, beside no error alone", v.T == api.KSym, e == api.OK)
		is(t, "or zero", v.T == 0 && v.S == nil, e != api.OK)
		same(t, "what is handed in", c.l, kept)
	}
}
