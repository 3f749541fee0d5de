package codec_test

import (
	"encoding/binary"
	"fmt"
	"hash/crc32"
	"math"
	"slices"
	"strings"
	"testing"

	"quiver/api"
	"quiver/codec"
	"quiver/value"
)

// draws is a row of numbers that looks random, and is the same each time.
func draws(seed uint64) func(below int) int {
	return func(below int) int {
		seed = seed*6364136223846793005 + 1442695040888963407
		return int(seed>>33) % below
	}
}

func is[K comparable](t *testing.T, what string, got, want K) {
	t.Helper()
	if got != want {
		t.Fatalf("%.300s: %.300v, not %.300v", what, got, want)
	}
}

// The kinds of values, written out without the packages' help.
func vector(t int, n ...int64) api.V { return api.V{T: t, N: n} }
func symbols(s ...string) api.V      { return api.V{T: api.KSym, S: s} }
func atom(t int, n int64) api.V      { return api.V{T: -t, N: []int64{n}} }
func symbol(s string) api.V          { return api.V{T: -api.KSym, S: []string{s}} }
func list(l ...api.V) api.V          { return api.V{T: api.KList, L: l} }
func dict(k, v api.V) api.V          { return api.V{T: api.KDict, L: []api.V{k, v}} }
func lambda(s string) api.V          { return api.V{T: api.KLambda, S: []string{s}} }
func nothing() api.V                 { return api.V{T: api.KNil} }
func ints(n ...int64) api.V          { return vector(api.KInt, n...) }
func bools(n ...int64) api.V         { return vector(api.KBool, n...) }
func one(n int64) api.V              { return atom(api.KInt, n) }
func names(s ...string) []string     { return s }
func table(s []string, l ...api.V) api.V {
	return api.V{T: api.KTable, S: s, L: l}
}

// nest is v in so many lists.
func nest(v api.V, lists int) api.V {
	for range lists {
		v = list(v)
	}
	return v
}

// source is a lambda's source of so many bytes.
func source(size int) string { return "{" + strings.Repeat("x", size-2) + "}" }

// told is a value in few words.
func told(v api.V) string { return fmt.Sprintf("%.300v", v) }

// The bytes of a value, worked out another way than by the package: P6.1's table, line by line.

func wantText(s string) string {
	return string(binary.AppendUvarint(nil, uint64(len(s)))) + s
}

func wantTexts(l []string) string {
	var b strings.Builder
	for _, s := range l {
		b.WriteString(wantText(s))
	}
	return b.String()
}

func wantMany(n int) string { return string(binary.AppendUvarint(nil, uint64(n))) }

func wantBits(l []int64) string {
	var b []byte
	for eight := range slices.Chunk(l, 8) {
		var c byte
		for i, place := range []byte{1, 2, 4, 8, 16, 32, 64, 128}[:len(eight)] {
			c += byte(eight[i]) * place
		}
		b = append(b, c)
	}
	return string(b)
}

func wantNumbers(l []int64) string {
	var b []byte
	for i, n := range l {
		if i > 0 {
			n = int64(uint64(n) - uint64(l[i-1]))
		}
		b = binary.AppendVarint(b, n)
	}
	return string(b)
}

func wantParts(l []api.V) string {
	var b strings.Builder
	for _, x := range l {
		b.WriteString(wantBytes(x))
	}
	return b.String()
}

func wantBytes(v api.V) string {
	switch v.T {
	case -api.KBool:
		return "\xff" + string([]byte{byte(v.N[0])})
	case -api.KInt:
		return "\xfe" + string(binary.AppendVarint(nil, v.N[0]))
	case -api.KSym:
		return "\xfd" + wantText(v.S[0])
	case -api.KTime:
		return "\xfc" + string(binary.AppendVarint(nil, v.N[0]))
	case -api.KDec:
		return "\xfb" + string(binary.AppendVarint(nil, v.N[0]))
	case api.KList:
		return "\x00" + wantMany(len(v.L)) + wantParts(v.L)
	case api.KBool:
		return "\x01" + wantMany(len(v.N)) + wantBits(v.N)
	case api.KInt:
		return "\x02" + wantMany(len(v.N)) + wantNumbers(v.N)
	case api.KSym:
		return "\x03" + wantMany(len(v.S)) + wantTexts(v.S)
	case api.KTime:
		return "\x04" + wantMany(len(v.N)) + wantNumbers(v.N)
	case api.KDec:
		return "\x05" + wantMany(len(v.N)) + wantNumbers(v.N)
	case api.KTable:
		return "\x62" + wantMany(len(v.S)) + wantTexts(v.S) + wantParts(v.L)
	case api.KDict:
		return "\x63" + wantParts(v.L)
	case api.KLambda:
		return "\x64" + wantText(v.S[0])
	}
	return "\x65"
}

// wantFrame is a frame of that load.
func wantFrame(load string) string {
	b := binary.BigEndian.AppendUint32(nil, uint32(len(load)))
	b = append(b, load...)
	return string(binary.LittleEndian.AppendUint32(b, crc32.Checksum(b, crc32.MakeTable(crc32.Castagnoli))))
}

// wantPut asks that v's bytes are these, and that they are read as v.
func wantPut(t *testing.T, v api.V, want string) {
	t.Helper()
	b, e := codec.Put(v)
	if e != api.OK || string(b) != want {
		t.Fatalf("Put of %s: %.300x, %d; not %.300x", told(v), b, e, want)
	}
	is(t, "Bytes", codec.Bytes(v), len(want))
	wantGet(t, want, v)
}

func wantGet(t *testing.T, p string, want api.V) {
	t.Helper()
	v, e := codec.Get([]byte(p))
	if e != api.OK || !value.Match(v, want) {
		t.Fatalf("Get of %.300x: %s, %d; not %s", p, told(v), e, told(want))
	}
}

// wantZero asks that there is nothing beside an error.
func wantZero(t *testing.T, what string, v api.V) {
	t.Helper()
	if v.T != 0 || v.N != nil || v.S != nil || v.L != nil {
		t.Fatalf("%s: beside an error: %s", what, told(v))
	}
}

func wantNoValue(t *testing.T, p string) {
	t.Helper()
	v, e := codec.Get([]byte(p))
	is(t, fmt.Sprintf("Get of %x", p), e, api.ErrCodec)
	wantZero(t, "Get", v)
}

// oddSymbols are symbols of all kinds of bytes, to the longest.
func oddSymbols() []string {
	return []string{"", "a", "b", "ab", " ", "\x01", "\x7f", "\x80", "\xff\xfe", "\u00e9", "`", "\"", strings.Repeat("x", api.MaxSym-1), strings.Repeat("\xff", api.MaxSym)}
}

// oddNumbers are numbers at which bytes become more, and all ends.
func oddNumbers() []int64 {
	l := []int64{0, math.MinInt64, math.MinInt64 + 1, math.MaxInt64 - 1, math.MaxInt64}
	for i := range 63 {
		n := int64(1) << i
		l = append(l, n-1, n, n+1, -n, -n-1, -n+1)
	}
	return l
}

func numeric() []int { return []int{api.KBool, api.KInt, api.KTime, api.KDec} }

// column draws a vector or a list of so many elements, at most so deep.
func column(draw func(int) int, count, depth int) api.V {
	t := draw(6)
	if depth < 2 {
		t = 1 + draw(5)
	}
	v := api.V{T: t}
	for i := range count {
		switch t {
		case api.KList:
			v.L = append(v.L, anyValue(draw, depth-1))
			if i == 0 && v.L[0].T < 0 {
				v.L[0] = list()
			}
		case api.KSym:
			v.S = append(v.S, oddSymbols()[draw(len(oddSymbols()))])
		case api.KBool:
			v.N = append(v.N, int64(draw(2)))
		default:
			v.N = append(v.N, oddNumbers()[draw(len(oddNumbers()))])
		}
	}
	return v
}

func anyTable(draw func(int) int, count, depth int) api.V {
	v := api.V{T: api.KTable}
	for range 1 + draw(3) {
		name := oddSymbols()[1+draw(len(oddSymbols())-1)]
		if !slices.Contains(v.S, name) {
			v.S = append(v.S, name)
			v.L = append(v.L, column(draw, count, depth-1))
		}
	}
	return v
}

// anyValue draws a value that is not nothing, at most so deep.
func anyValue(draw func(int) int, depth int) api.V {
	count := []int{0, 1, 2, 3, 7, 8, 9}[draw(7)]
	kind := draw(9)
	switch {
	case kind < 2:
		return column(draw, count, depth)
	case kind < 4 || depth < 3:
		v := column(draw, 1, 1)
		v.T = -v.T
		return v
	case kind < 5:
		return lambda([]string{"{}", "{x}", "{x+\"}\"}", "{\x00\xff}", "{{}"}[draw(5)])
	case kind < 7:
		return anyTable(draw, count, depth)
	case kind < 8:
		return dict(column(draw, count, depth-1), column(draw, count, depth-1))
	}
	return dict(anyTable(draw, count, depth-1), anyTable(draw, count, depth-1))
}

func drawn(seed uint64, many int) []api.V {
	draw := draws(seed)
	l := []api.V{nothing()}
	for range many {
		l = append(l, anyValue(draw, 1+draw(5)))
	}
	return l
}

// TestExamples: the chapter's examples.
func TestExamples(t *testing.T) {
	wantPut(t, one(5), "\xfe\x0a")
	wantPut(t, ints(1, 2, 4), "\x02\x03\x02\x02\x04")
	wantPut(t, atom(api.KBool, 1), "\xff\x01")
	wantPut(t, nothing(), "\x65")
	wantNoValue(t, "\xfe\x0a\x00")
	wantPut(t, bools(1, 0, 1), "\x01\x03\x05")
	wantNoValue(t, "\x01\x03\x0d")
}
