package codec_test

import (
	"math"
	"slices"
	"strconv"
	"strings"
	"testing"

	"quiver/api"
	"quiver/codec"
)

// TestPut: P6.1, each line of its table.
func TestPut(t *testing.T) {
	for want, v := range map[string]api.V{
		"\xff\x00": atom(api.KBool, 0), "\xff\x01": atom(api.KBool, 1),
		"\xfe\x00": one(0), "\xfe\x09": one(-5), "\xfe\xac\x02": one(150), "\xfe\xff\xff\xff\xff\xff\xff\xff\xff\xff\x01": one(api.Null),
		"\xfd\x00": symbol(""), "\xfd\x02ab": symbol("ab"), "\xfd\x01\xff": symbol("\xff"),
		"\xfc\x0a": atom(api.KTime, 5), "\xfb\x09": atom(api.KDec, -5),
		"\x01\x00": bools(), "\x01\x01\x01": bools(1), "\x01\x01\x00": bools(0), "\x01\x08\x81": bools(1, 0, 0, 0, 0, 0, 0, 1), "\x01\x09\x01\x01": bools(1, 0, 0, 0, 0, 0, 0, 0, 1),
		"\x02\x00": ints(), "\x02\x01\x0a": ints(5), "\x02\x04\x06\x01\x00\x04": ints(3, 2, 2, 4), "\x04\x02\x0a\x01": vector(api.KTime, 5, 4), "\x05\x02\x0a\x02": vector(api.KDec, 5, 6), "\x04\x00": vector(api.KTime), "\x05\x00": vector(api.KDec),
		"\x03\x00": symbols(), "\x03\x01\x00": symbols(""), "\x03\x03\x01b\x00\x01a": symbols("b", "", "a"),
		"\x00\x00": list(), "\x00\x01\x00\x00": list(list()), "\x00\x02\xfe\x0a\xfd\x01a": list(one(5), symbol("a")), "\x00\x01\x02\x01\x0a": list(ints(5)), "\x00\x03\x64\x02{}\xfe\x02\xfe\x04": list(lambda("{}"), one(1), one(2)),
		"\x62\x01\x01a\x02\x02\x02\x02": table(names("a"), ints(1, 2)), "\x62\x02\x01a\x02bc\x00\x00\x03\x00": table(names("a", "bc"), list(), symbols()),
		"\x62\x02\x01b\x01a\x02\x01\x02\x03\x01\x01x": table(names("b", "a"), ints(1), symbols("x")),
		"\x63\x03\x01\x01a\x04\x01\x06":               dict(symbols("a"), vector(api.KTime, 3)), "\x63\x00\x00\x02\x00": dict(list(), ints()),
		"\x63\x62\x01\x01a\x02\x01\x02\x62\x01\x01a\x01\x01\x01": dict(table(names("a"), ints(1)), table(names("a"), bools(1))),
		"\x64\x02{}": lambda("{}"), "\x64\x04{\x00\xff}": lambda("{\x00\xff}"), "\x64\x03{}}": lambda("{}}"),
		"\x65": nothing(),
	} {
		wantPut(t, v, want)
		is(t, "the test's own", wantBytes(v), want)
	}
}

// TestPutNumbers: P6.1: atoms of all numbers, and differences that go round.
func TestPutNumbers(t *testing.T) {
	wantPut(t, ints(math.MaxInt64, math.MinInt64), "\x02\x02\xfe\xff\xff\xff\xff\xff\xff\xff\xff\x01\x02")
	wantPut(t, ints(math.MinInt64, math.MaxInt64), "\x02\x02\xff\xff\xff\xff\xff\xff\xff\xff\xff\x01\x01")
	wantPut(t, ints(0, math.MinInt64, 0), "\x02\x03\x00\xff\xff\xff\xff\xff\xff\xff\xff\xff\x01\xff\xff\xff\xff\xff\xff\xff\xff\xff\x01")
	for _, n := range oddNumbers() {
		for _, k := range numeric()[1:] {
			wantPut(t, atom(k, n), wantBytes(atom(k, n)))
			wantPut(t, vector(k, n), wantBytes(vector(k, n)))
			between := vector(k, n)
			for _, m := range oddNumbers() {
				between.N = append(between.N, m, n)
			}
			wantPut(t, between, wantBytes(between))
		}
	}
}

// TestPutBools: P6.1: eight a byte, the first in the lowest bit, zeros behind the last.
func TestPutBools(t *testing.T) {
	for count := range 18 {
		for place := range count {
			n := make([]int64, count)
			n[place] = 1
			want := make([]byte, (count+7)/8)
			want[place/8] = 1 << (place % 8)
			wantPut(t, bools(n...), "\x01"+string(rune(count))+string(want))
		}
		n := slices.Repeat([]int64{1}, count)
		wantPut(t, bools(n...), wantBytes(bools(n...)))
	}
	wantPut(t, bools(slices.Repeat([]int64{1}, 11)...), "\x01\x0b\xff\x07")
}

// full are values at the limits.
func full() map[string]api.V {
	count := make([]int64, api.MaxCount)
	digits := make([]string, api.MaxCount)
	parts := make([]api.V, api.MaxCount)
	for i := range count {
		count[i] = int64(i) * int64(i) * int64(i%3-1)
		digits[i] = strconv.Itoa(i)
		parts[i] = list()
	}
	ones := slices.Repeat([]int64{1}, api.MaxCount)
	columns := slices.Repeat([]api.V{ints(1)}, api.MaxColumns)
	return map[string]api.V{
		"bools": bools(ones...), "ints": ints(count...), "times": vector(api.KTime, count...), "symbols": symbols(digits...), "list": list(parts...),
		"source": lambda(source(api.MaxText)), "symbol": symbol(strings.Repeat("s", api.MaxSym)), "name": table(names(strings.Repeat("s", api.MaxSym)), ints()),
		"columns": table(digits[:api.MaxColumns], columns...), "depth": nest(list(), api.MaxDepth-1), "deep atoms": nest(list(one(1), symbol("a")), api.MaxDepth-2), "deep table": nest(table(names("a"), ints(1)), api.MaxDepth-2), "deep dictionary": nest(dict(ints(1), ints(1)), api.MaxDepth-2),
	}
}

// TestPutFull: P6.1: at the limits.
func TestPutFull(t *testing.T) {
	for _, v := range full() {
		wantPut(t, v, wantBytes(v))
	}
}

// wrong are things that are no values, each with the error that value.Check is to tell: chapter 3.
func wrong() map[string]struct {
	v    api.V
	want api.Errno
} {
	type c = struct {
		v    api.V
		want api.Errno
	}
	long := strings.Repeat("s", api.MaxSym+1)
	return map[string]c{
		"no type":            {api.V{T: 50}, api.ErrValue},
		"a type and a byte":  {api.V{T: 256 + api.KNil}, api.ErrValue},
		"the byte of a type": {api.V{T: 254, N: []int64{1}}, api.ErrValue},
		"another field":      {api.V{T: api.KInt, S: names("a")}, api.ErrValue},
		"an empty atom":      {api.V{T: -api.KInt}, api.ErrValue},
		"an atom of two":     {api.V{T: -api.KInt, N: []int64{1, 2}}, api.ErrValue},
		"a bool of 2":        {bools(0, 2), api.ErrValue},
		"a bool of 256":      {atom(api.KBool, 256), api.ErrValue},
		"a 0 in a symbol":    {symbol("a\x00"), api.ErrValue},
		"a list of atoms":    {list(one(1), one(2)), api.ErrValue},
		"a list of nothing":  {list(nothing()), api.ErrValue},
		"one part":           {api.V{T: api.KDict, L: []api.V{ints()}}, api.ErrValue},
		"no columns":         {table(nil), api.ErrValue},
		"no source":          {lambda("x"), api.ErrValue},
		"too many":           {ints(make([]int64, api.MaxCount+1)...), api.ErrMany},
		"too long":           {symbols("a", long), api.ErrLong},
		"too long a source":  {lambda(source(api.MaxText + 1)), api.ErrLong},
		"unlike counts":      {table(names("a", "b"), ints(1), ints()), api.ErrLength},
		"too deep":           {nest(list(), api.MaxDepth), api.ErrMany},
		"the first of two":   {list(symbol(long), api.V{T: 50}), api.ErrLong},
	}
}

// TestPutNoValue: P6.1: value.Check's first error, and nothing.
func TestPutNoValue(t *testing.T) {
	for name, c := range wrong() {
		for _, v := range []api.V{c.v, list(c.v, list())} {
			b, e := codec.Put(v)
			is(t, "Put of "+name, e, c.want)
			is(t, "Put of "+name, len(b), 0)
			is(t, "Bytes of "+name, codec.Bytes(v), 0)
		}
	}
}
