package value_test

import (
	"bytes"
	"encoding/binary"
	"testing"

	"quiver/api"
	"quiver/value"
)

// empties is v with nil where there were empty lists, or the other way round.
func empties(v api.V, none bool) api.V {
	w := api.V{T: v.T}
	if !none {
		w = api.V{T: v.T, N: []int64{}, S: []string{}, L: []api.V{}}
	}
	w.N = append(w.N, v.N...)
	w.S = append(w.S, v.S...)
	for _, x := range v.L {
		w.L = append(w.L, empties(x, none))
	}
	return w
}

// TestMatch: P3.7.
func TestMatch(t *testing.T) {
	l := samples()
	for i, a := range l {
		for j, b := range l {
			is(t, "Match "+told(a)+" "+told(b), value.Match(a, b), i == j)
		}
		is(t, "nil and empty", value.Match(empties(a, true), empties(a, false)), true)
		is(t, "nil and empty", value.Compare(empties(a, true), empties(a, false)), 0)
	}
}

// key is bytes that stand to one another as P3.8 orders values: each part has an end of its own.
func key(v api.V) []byte {
	ranks := map[int]byte{api.KNil: 0, api.KBool: 1, api.KInt: 2, api.KTime: 3, api.KDec: 4, api.KSym: 5, api.KList: 6, api.KDict: 7, api.KTable: 8, api.KLambda: 9}
	switch v.T {
	case api.KNil:
		return []byte{0}
	case api.KLambda:
		return append([]byte{9}, keyText(v.S[0])...)
	case api.KList:
		return append([]byte{6}, keyList(v.L)...)
	case api.KDict:
		return append(append([]byte{7}, key(v.L[0])...), key(v.L[1])...)
	case api.KTable:
		return append(append([]byte{8}, keyTexts(v.S)...), keyList(v.L)...)
	}
	p := []byte{ranks[max(v.T, -v.T)], 0}
	if v.T > 0 {
		p[1] = 1
	}
	if p[0] == 5 {
		return append(p, keyTexts(v.S)...)
	}
	for _, n := range v.N {
		p = binary.BigEndian.AppendUint64(append(p, 1), uint64(n)^1<<63)
	}
	return append(p, 0)
}

func keyText(s string) []byte {
	return append(bytes.ReplaceAll([]byte(s), []byte{0}, []byte{0, 255}), 0, 0)
}

func keyTexts(l []string) []byte {
	var p []byte
	for _, s := range l {
		p = append(append(p, 1), keyText(s)...)
	}
	return append(p, 0)
}

func keyList(l []api.V) []byte {
	var p []byte
	for _, v := range l {
		p = append(append(p, 1), key(v)...)
	}
	return append(p, 0)
}

func wantOrder(t *testing.T, a, b api.V) {
	t.Helper()
	want := bytes.Compare(key(a), key(b))
	is(t, "Compare "+told(a)+" "+told(b), value.Compare(a, b), want)
	is(t, "Match "+told(a)+" "+told(b), value.Match(a, b), want == 0)
}

// TestCompare: P3.8.
func TestCompare(t *testing.T) {
	for _, a := range samples() {
		for _, b := range samples() {
			wantOrder(t, a, b)
		}
	}
}

// rising are values each of which is above the one ahead of it.
func rising() []api.V {
	return []api.V{
		nothing(),
		atom(api.KBool, 0), atom(api.KBool, 1), vector(api.KBool), vector(api.KBool, 0, 1), vector(api.KBool, 1),
		one(api.Null), one(-1), one(0), one(1<<62 + 1), ints(), ints(api.Null), ints(-2), ints(-1, 9), ints(-1, 9, api.Null), ints(0), ints(1<<62 + 1),
		atom(api.KTime, 3), vector(api.KTime), atom(api.KDec, 3), vector(api.KDec, -3),
		symbol(""), symbol("A"), symbol("a"), symbol("aa"), symbol("b"), symbol("\x80"), symbols(), symbols(""), symbols("", "a"), symbols("a"), symbols("a", "b"), symbols("aa"),
		list(), list(nothing()), list(one(1), symbol("a")), list(one(2), atom(api.KBool, 1)), list(ints(1)), list(ints(1), one(1)), list(list()), list(lambda("{}")),
		dict(ints(1), ints(9)), dict(ints(2), ints(1)), dict(ints(2), ints(2)), dict(table("a", ints(1)), table("a", ints(1))),
		table("a", ints(5)), table("a", list()), table("a b", ints(1), ints(2)), table("a b", ints(1), ints(3)), table("a b", ints(2), ints(1)), table("b", ints(1)),
		lambda("{"), lambda("{{}"), lambda("{}"), lambda("{}}"),
	}
}

// TestRising: P3.8: an order that is written out.
func TestRising(t *testing.T) {
	l := rising()
	for i, a := range l {
		for j, b := range l {
			want := 0
			if i < j {
				want = -1
			} else if i > j {
				want = 1
			}
			is(t, "Compare "+told(a)+" "+told(b), value.Compare(a, b), want)
		}
	}
}

// TestMeasures: P3.9.
func TestMeasures(t *testing.T) {
	ab := table("a b", ints(1, 2), symbols("x", "y"))
	for _, c := range []struct {
		v           api.V
		depth, size int
	}{
		{nothing(), 1, 1}, {one(1), 1, 2}, {symbol("abc"), 1, 2}, {lambda("{x+y}"), 1, 2},
		{ints(), 1, 1}, {ints(1, 2, 3), 1, 4}, {symbols("a", "b"), 1, 3},
		{list(), 1, 1}, {list(list()), 2, 2}, {list(ints(1), one(2)), 2, 5}, {nest(ints(7), 5), 6, 7}, {list(ints(), nest(ints(), 3), ints()), 5, 7},
		{ab, 2, 9}, {dict(ab, table("c", list(list(), one(4)))), 4, 16}, {dict(ints(1), symbols("a")), 2, 5},
		{nest(list(), api.MaxDepth-1), api.MaxDepth, api.MaxDepth}, {nest(list(), 1<<16-1), 1 << 16, 1 << 16},
	} {
		is(t, "Depth "+told(c.v), value.Depth(c.v), c.depth)
		is(t, "Size "+told(c.v), value.Size(c.v), c.size)
	}
}

// TestClone: P3.9.
func TestClone(t *testing.T) {
	for _, v := range samples() {
		mine := roomy(v)
		clone := value.Clone(mine)
		wantV(t, "Clone", clone, v)
		scribble(mine)
		wantV(t, "Clone, apart", clone, v)
	}
	deep := value.Clone(nest(ints(1), 1<<16-1))
	is(t, "very deep", value.Depth(deep), 1<<16)
	is(t, "very deep", value.Match(deep, nest(ints(1), 1<<16-1)), true)
	is(t, "very deep", value.Compare(deep, nest(ints(2), 1<<16-1)), -1)
}
