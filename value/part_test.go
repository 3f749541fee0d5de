package value_test

import (
	"math"
	"testing"

	"quiver/api"
	"quiver/value"
)

// wantAll asks At at all places and beside them, and Each.
func wantAll(t *testing.T, v api.V, want ...api.V) {
	t.Helper()
	for i, w := range want {
		x, e := value.At(v, i)
		is(t, "At "+told(v), e, api.OK)
		wantV(t, "At "+told(v), x, w)
	}
	for _, i := range []int{-1, len(want), len(want) + 1, math.MinInt, math.MaxInt} {
		x, e := value.At(v, i)
		is(t, "beside "+told(v), e, api.ErrRange)
		wantV(t, "beside "+told(v), x, api.V{})
	}
	at := 0
	for i, x := range value.Each(v) {
		is(t, "the place", i, at)
		wantV(t, "Each "+told(v), x, want[i])
		at++
	}
	is(t, "Each goes over all", at, len(want))
	is(t, "Count", value.Count(v), len(want))
}

// TestAt: P3.6, and example 2.
func TestAt(t *testing.T) {
	wantAll(t, ints(1, 2, 3), one(1), one(2), one(3))
	wantAll(t, one(5), one(5))
	for _, k := range numeric() {
		wantAll(t, vector(k, 1, 0), atom(k, 1), atom(k, 0))
		wantAll(t, vector(k))
		wantAll(t, atom(k, 1), atom(k, 1))
	}
	wantAll(t, symbols("a", ""), symbol("a"), symbol(""))
	wantAll(t, symbols())
	wantAll(t, symbol("a"), symbol("a"))
	wantAll(t, list(ints(1, 2), one(3), list()), ints(1, 2), one(3), list())
	wantAll(t, list())
	wantAll(t, lambda("{x}"), lambda("{x}"))
	wantAll(t, nothing(), nothing())
}

// TestAtDict: P3.6: of a dictionary its values.
func TestAtDict(t *testing.T) {
	wantAll(t, dict(symbols("a", "b"), ints(1, 2)), one(1), one(2))
	wantAll(t, dict(list(ints(1), ints(2)), list(ints(1, 2), table("a", ints(1)))), ints(1, 2), table("a", ints(1)))
	wantAll(t, dict(list(), symbols()))
}

// TestAtRow: P3.6, and example 2: of a table a row.
func TestAtRow(t *testing.T) {
	ab := table("a b", ints(1, 2), symbols("x", "y"))
	wantAll(t, ab, dict(symbols("a", "b"), list(one(1), symbol("x"))), dict(symbols("a", "b"), list(one(2), symbol("y"))))
	wantAll(t, table("a b", ints(), list()))
	wantAll(t, table("a", symbols("x")), dict(symbols("a"), symbols("x")))
	wantAll(t, table("b a", ints(1, 2), ints(3, 4)), dict(symbols("b", "a"), ints(1, 3)), dict(symbols("b", "a"), ints(2, 4)))
	wantAll(t, table("a b", list(one(1), ints(7, 8)), ints(3, 4)), dict(symbols("a", "b"), ints(1, 3)), dict(symbols("a", "b"), list(ints(7, 8), one(4))))
	c := table("c a", list(ints(1, 2), list()), ints(8, 9))
	wantAll(t, dict(ab, c), dict(symbols("a", "b", "c", "a"), list(one(1), symbol("x"), ints(1, 2), one(8))), dict(symbols("a", "b", "c", "a"), list(one(2), symbol("y"), list(), one(9))))
	wantAll(t, dict(table("a", ints(1)), table("b", ints(2))), dict(symbols("a", "b"), ints(1, 2)))
	wantAll(t, dict(table("a", ints()), table("b", ints())))
}

// TestEach: P3.6: it may be left, gone over again, and nested.
func TestEach(t *testing.T) {
	each := value.Each(ints(10, 20, 30))
	for range 2 {
		for i, x := range each {
			wantV(t, "again", x, one(int64(10*i+10)))
			if i == 1 {
				break
			}
		}
	}
	pairs := 0
	for i, x := range each {
		for j, y := range each {
			is(t, "outer", x.N[0], int64(10*i+10))
			is(t, "inner", y.N[0], int64(10*j+10))
			pairs++
		}
	}
	is(t, "nested", pairs, 9)
	rows := 0
	for range value.Each(table("a b", ints(1, 2), ints(3, 4))) {
		rows++
		break
	}
	is(t, "left", rows, 1)
	for range value.Each(list()) {
		t.Fatal("of nothing")
	}
}

// TestEachApart: P3.6 and rule 4: what is gone over is as it was at the call.
func TestEachApart(t *testing.T) {
	for _, v := range samples() {
		mine := roomy(v)
		each := value.Each(mine)
		scribble(mine)
		for range 2 {
			for i, x := range each {
				want, e := value.At(v, i)
				is(t, "At", e, api.OK)
				wantV(t, "Each "+told(v), x, want)
				scribble(x)
			}
		}
	}
}
