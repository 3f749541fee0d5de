package vec_test

import (
	"fmt"
	"math"
	"testing"

	"quiver/api"
	"quiver/value"
	"quiver/vec"
)

const (
	null     = api.Null
	greatest = math.MaxInt64
	least    = -math.MaxInt64
)

// draws is a row of numbers that looks random, and is the same each time.
func draws(seed uint64) func(below int) int {
	return func(below int) int {
		seed = seed*6364136223846793005 + 1442695040888963407
		return int(seed>>33) % below
	}
}

func is[K comparable](t *testing.T, what string, got, want K) {
	t.Helper()
	if got != want {
		t.Fatalf("%.300s: %.300v, not %.300v", what, got, want)
	}
}

// The kinds of values, written out without the packages' help.
func vector(t int, n ...int64) api.V { return api.V{T: t, N: n} }
func symbols(s ...string) api.V      { return api.V{T: api.KSym, S: s} }
func atom(t int, n int64) api.V      { return api.V{T: -t, N: []int64{n}} }
func symbol(s string) api.V          { return api.V{T: -api.KSym, S: []string{s}} }
func list(l ...api.V) api.V          { return api.V{T: api.KList, L: l} }
func dict(k, v api.V) api.V          { return api.V{T: api.KDict, L: []api.V{k, v}} }
func lambda(s string) api.V          { return api.V{T: api.KLambda, S: []string{s}} }
func nothing() api.V                 { return api.V{T: api.KNil} }
func bools(n ...int64) api.V         { return vector(api.KBool, n...) }
func ints(n ...int64) api.V          { return vector(api.KInt, n...) }
func times(n ...int64) api.V         { return vector(api.KTime, n...) }
func decs(n ...int64) api.V          { return vector(api.KDec, n...) }
func truth(n int64) api.V            { return atom(api.KBool, n) }
func one(n int64) api.V              { return atom(api.KInt, n) }
func at(n int64) api.V               { return atom(api.KTime, n) }
func dec(n int64) api.V              { return atom(api.KDec, n) }
func table(name string, l api.V) api.V {
	return api.V{T: api.KTable, S: []string{name}, L: []api.V{l}}
}

// nest is v in so many lists.
func nest(v api.V, lists int) api.V {
	for range lists {
		v = list(v)
	}
	return v
}

// others are values that are no atoms, vectors and lists.
func others() []api.V {
	t := table("a", ints(1, 2))
	return []api.V{t, table("a", ints()), dict(ints(1), ints(2)), dict(list(), ints()), dict(t, t), lambda("{x}"), nothing()}
}

// told is values in few words.
func told(l ...api.V) string { return fmt.Sprintf("%.300s", fmt.Sprint(l)) }

// wants holds an answer against the value that it ought to be, or the error.
func wants(t *testing.T, got api.V, e api.Errno, want api.V, wantE api.Errno, what string, handed ...api.V) {
	t.Helper()
	if e != wantE || !value.Match(got, want) || value.Check(got) != api.OK {
		t.Fatalf("%s of %s: %s, error %d; not %s, error %d", what, told(handed...), told(got), e, told(want), wantE)
	}
}

func wantDo(t *testing.T, op int, a, b, want api.V) {
	t.Helper()
	v, e := vec.Do(op, a, b)
	wants(t, v, e, want, api.OK, fmt.Sprint("Do ", op), a, b)
}

func wantDoError(t *testing.T, op int, a, b api.V, want api.Errno) {
	t.Helper()
	v, e := vec.Do(op, a, b)
	wants(t, v, e, api.V{}, want, fmt.Sprint("Do ", op), a, b)
}

// TestExamples: the chapter's examples.
func TestExamples(t *testing.T) {
	wantDo(t, api.OpDiv, one(-7), one(2), one(-4))
	wantDo(t, api.OpMod, one(-7), one(2), one(1))
	wantDo(t, api.OpDiv, one(1), one(0), one(null))
	wantDo(t, api.OpMul, dec(15000), dec(15000), dec(22500))
	wantDo(t, api.OpAdd, ints(1, 2), ints(10, 20), ints(11, 22))
	wantDoError(t, api.OpAdd, ints(1, 2), ints(1, 2, 3), api.ErrLength)
	wantDoError(t, api.OpAdd, one(greatest), one(1), api.ErrOverflow)
	wantTake(t, 5, ints(1, 2), ints(1, 2, 1, 2, 1))
	wantTake(t, -3, ints(1, 2), ints(2, 1, 2))
	wantJoin(t, ints(1, 2, 3), one(1), ints(2, 3))
	wantJoin(t, list(one(1), symbol("a")), one(1), symbol("a"))
	wantWhere(t, bools(0, 1, 1), ints(1, 2))
	wantWhere(t, ints(2, 0, 1), ints(0, 0, 2))
}

// TestDoRows: P7.1: the table, a row at a time, with numbers that are worked out by hand.
func TestDoRows(t *testing.T) {
	for _, c := range []struct {
		op         int
		a, b, want api.V
	}{
		{api.OpAdd, one(2), one(-5), one(-3)},
		{api.OpAdd, dec(15000), dec(-1), dec(14999)},
		{api.OpAdd, one(2), dec(5), dec(20005)},
		{api.OpAdd, dec(5), one(-2), dec(-19995)},
		{api.OpAdd, at(100), one(-5), at(95)},
		{api.OpAdd, one(-5), at(100), at(95)},
		{api.OpAdd, truth(1), truth(1), one(2)},
		{api.OpAdd, truth(1), at(100), at(101)},
		{api.OpAdd, truth(1), dec(3), dec(10003)},
		{api.OpSub, one(2), one(-5), one(7)},
		{api.OpSub, dec(15000), dec(-1), dec(15001)},
		{api.OpSub, one(2), dec(5), dec(19995)},
		{api.OpSub, dec(5), one(2), dec(-19995)},
		{api.OpSub, at(100), one(5), at(95)},
		{api.OpSub, at(100), at(105), one(-5)},
		{api.OpSub, truth(0), truth(1), one(-1)},
		{api.OpSub, at(100), truth(1), at(99)},
		{api.OpMul, one(3), one(-4), one(-12)},
		{api.OpMul, one(3), dec(-4), dec(-12)},
		{api.OpMul, dec(3), one(-4), dec(-12)},
		{api.OpMul, dec(-1), dec(1), dec(-1)},
		{api.OpMul, dec(1), dec(1), dec(0)},
		{api.OpMul, truth(1), truth(1), one(1)},
		{api.OpMul, truth(1), dec(7), dec(7)},
		{api.OpDiv, one(7), one(2), one(3)},
		{api.OpDiv, one(7), one(-2), one(-4)},
		{api.OpDiv, one(-7), one(-2), one(3)},
		{api.OpDiv, dec(7), one(2), dec(3)},
		{api.OpDiv, dec(-7), one(2), dec(-4)},
		{api.OpDiv, dec(10000), dec(30000), dec(3333)},
		{api.OpDiv, dec(-10000), dec(30000), dec(-3334)},
		{api.OpDiv, one(1), dec(30000), dec(3333)},
		{api.OpDiv, one(-1), dec(30000), dec(-3334)},
		{api.OpDiv, truth(1), truth(0), one(null)},
		{api.OpDiv, dec(1), one(0), dec(null)},
		{api.OpDiv, dec(1), dec(0), dec(null)},
		{api.OpDiv, one(0), dec(0), dec(null)},
		{api.OpMod, one(7), one(-2), one(-1)},
		{api.OpMod, one(-7), one(-2), one(-1)},
		{api.OpMod, one(-6), one(2), one(0)},
		{api.OpMod, dec(-15000), dec(10000), dec(5000)},
		{api.OpMod, one(3), one(0), one(null)},
		{api.OpMod, dec(3), dec(0), dec(null)},
		{api.OpMod, truth(1), truth(1), one(0)},
		{api.OpMin, truth(1), truth(0), truth(0)},
		{api.OpMax, truth(1), truth(0), truth(1)},
		{api.OpMin, one(3), one(-4), one(-4)},
		{api.OpMax, dec(3), dec(-4), dec(3)},
		{api.OpMin, at(3), at(4), at(3)},
		{api.OpMax, one(1), dec(9999), dec(10000)},
		{api.OpMin, one(1), dec(9999), dec(9999)},
		{api.OpMax, dec(10001), one(1), dec(10001)},
		{api.OpMax, truth(1), one(-5), one(1)},
		{api.OpMin, truth(1), dec(20000), dec(10000)},
		{api.OpMin, one(null), dec(5), dec(null)},
		{api.OpMax, one(null), dec(5), dec(5)},
		{api.OpMax, dec(null), one(5), dec(50000)},
		{api.OpMin, at(null), at(least), at(null)},
		{api.OpEq, one(2), one(2), truth(1)},
		{api.OpEq, dec(2), one(2), truth(0)},
		{api.OpEq, one(2), dec(20000), truth(1)},
		{api.OpEq, truth(1), truth(1), truth(1)},
		{api.OpEq, truth(1), dec(10000), truth(1)},
		{api.OpEq, one(null), dec(null), truth(1)},
		{api.OpEq, at(null), at(null), truth(1)},
		{api.OpEq, symbol("ab"), symbol("ab"), truth(1)},
		{api.OpEq, symbol(""), symbol(""), truth(1)},
		{api.OpLt, one(2), dec(20001), truth(1)},
		{api.OpLt, one(-2), dec(-20001), truth(0)},
		{api.OpGt, one(-2), dec(-20001), truth(1)},
		{api.OpGt, one(greatest), dec(greatest), truth(1)},
		{api.OpLt, one(least), dec(least), truth(1)},
		{api.OpLt, dec(null), one(least), truth(1)},
		{api.OpGt, one(least), dec(null), truth(1)},
		{api.OpLt, one(null), dec(least), truth(1)},
		{api.OpLt, symbol("ab"), symbol("b"), truth(1)},
		{api.OpLt, symbol("a"), symbol("ab"), truth(1)},
		{api.OpGt, symbol("a"), symbol("Z"), truth(1)},
		{api.OpGt, symbol("\xff"), symbol("é"), truth(1)},
		{api.OpGt, symbol("a"), symbol(""), truth(1)},
		{api.OpLt, at(3), at(4), truth(1)},
		{api.OpGt, at(3), at(3), truth(0)},
	} {
		wantDo(t, c.op, c.a, c.b, c.want)
	}
}

// TestDoOverflow: P7.1: what is beyond the numbers, and what is just within.
func TestDoOverflow(t *testing.T) {
	const most = greatest / api.Scale
	for _, c := range []struct {
		op   int
		a, b api.V
	}{
		{api.OpAdd, one(least), one(-1)},
		{api.OpAdd, one(least), one(least)},
		{api.OpAdd, dec(greatest), dec(1)},
		{api.OpAdd, at(greatest), one(1)},
		{api.OpAdd, one(1), at(greatest)},
		{api.OpAdd, one(most + 1), dec(-api.Scale)}, // their sum is a number, but the int as a dec is none
		{api.OpAdd, dec(api.Scale), one(-most - 1)},
		{api.OpSub, one(most + 1), dec(api.Scale)},
		{api.OpSub, dec(api.Scale), one(most + 1)},
		{api.OpSub, one(-2), one(greatest)},
		{api.OpSub, at(least), at(1)},
		{api.OpSub, at(greatest), at(least)},
		{api.OpMul, one(greatest), one(2)},
		{api.OpMul, one(1 << 32), one(-1 << 31)},
		{api.OpMul, one(1 << 32), one(1 << 32)},
		{api.OpMul, dec(greatest), dec(api.Scale + 1)},
		{api.OpMul, dec(greatest), dec(least)},
		{api.OpMul, dec(greatest), one(2)},
		{api.OpDiv, dec(greatest), dec(api.Scale - 1)},
		{api.OpDiv, dec(greatest), dec(-1)},
		{api.OpDiv, one(most + 1), dec(api.Scale)},
		{api.OpDiv, one(greatest), dec(1)},
		{api.OpDiv, one(-most - 1), dec(api.Scale)},
		{api.OpMin, one(most + 1), dec(0)},
		{api.OpMin, one(-most - 1), dec(null)},
		{api.OpMax, dec(0), one(most + 1)},
		{api.OpMax, dec(null), one(-most - 1)},
	} {
		wantDoError(t, c.op, c.a, c.b, api.ErrOverflow)
	}
	wantDo(t, api.OpAdd, one(greatest), one(least), one(0))
	wantDo(t, api.OpAdd, one(-greatest+1), one(-1), one(least))
	wantDo(t, api.OpAdd, one(most), dec(-1), dec(most*api.Scale-1))
	wantDo(t, api.OpSub, at(-1), at(greatest-1), one(least))
	wantDo(t, api.OpMul, dec(greatest), dec(api.Scale), dec(greatest))
	wantDo(t, api.OpMul, dec(least), dec(api.Scale), dec(least))
	wantDo(t, api.OpMul, one(greatest), one(-1), one(least))
	wantDo(t, api.OpDiv, dec(greatest), dec(api.Scale), dec(greatest))
	wantDo(t, api.OpDiv, one(most+1), dec(2*api.Scale), dec((most+1)/2*api.Scale)) // the product is none, but what comes of it is
	wantDo(t, api.OpDiv, one(greatest), one(-1), one(least))
	wantDo(t, api.OpMod, one(least), one(-1), one(0))
	wantDo(t, api.OpMod, dec(least), dec(greatest), dec(0))
	wantDo(t, api.OpMod, one(-1), one(greatest), one(greatest-1))
	for op := api.OpAdd; op <= api.OpDiv; op++ {
		wantDo(t, op, one(greatest), dec(null), dec(null)) // null makes null: the int need not be a dec
		if op != api.OpDiv {
			wantDo(t, op, dec(null), one(greatest), dec(null))
		}
	}
	wantDo(t, api.OpDiv, dec(greatest), one(null), dec(null))
	wantDo(t, api.OpDiv, one(null), one(0), one(null))
	wantDo(t, api.OpMin, one(most), dec(greatest), dec(most*api.Scale))
}

// TestDoErrors: P7.2: the first of several errors.
func TestDoErrors(t *testing.T) {
	for _, op := range []int{-1, api.OpGt + 1, math.MinInt, math.MaxInt} {
		wantDoError(t, op, one(1), one(1), api.ErrArg)
		wantDoError(t, op, nothing(), list(), api.ErrArg)
		wantDoError(t, op, ints(1), ints(1, 2), api.ErrArg)
	}
	for op := range api.OpGt + 1 {
		for _, v := range append(others(), list(), list(ints(1), ints(2)), list(list())) {
			wantDoError(t, op, v, one(1), api.ErrType)
			wantDoError(t, op, ints(1, 2, 3), v, api.ErrType)
			wantDoError(t, op, v, v, api.ErrType)
		}
		wantDoError(t, op, ints(1), symbols("a", "b"), api.ErrType)
		wantDoError(t, op, ints(greatest, 1), ints(greatest), api.ErrLength)
		wantDoError(t, op, ints(), bools(1), api.ErrLength)
		wantDoError(t, op, decs(1), decs(), api.ErrLength)
	}
	wantDoError(t, api.OpEq, symbols("a"), symbols("a", "b"), api.ErrLength)
	wantDoError(t, api.OpAdd, ints(1, greatest, 2), one(1), api.ErrOverflow)
	wantDoError(t, api.OpAdd, one(1), ints(1, 2, greatest), api.ErrOverflow)
	wantDoError(t, api.OpMin, decs(null, 1), ints(1, greatest), api.ErrOverflow)
}

// TestDoKinds: P7.2: an atom of two atoms, else a vector, also of no elements.
func TestDoKinds(t *testing.T) {
	wantDo(t, api.OpAdd, one(1), ints(1, 2), ints(2, 3))
	wantDo(t, api.OpSub, ints(5, null), one(1), ints(4, null))
	wantDo(t, api.OpSub, ints(5), one(1), ints(4))
	wantDo(t, api.OpSub, one(5), ints(1), ints(4))
	wantDo(t, api.OpSub, times(5), times(7), ints(-2))
	wantDo(t, api.OpLt, symbol("b"), symbols("a", "b", "c"), bools(0, 0, 1))
	wantDo(t, api.OpLt, symbols("a", "b", "c"), symbol("b"), bools(1, 0, 0))
	wantDo(t, api.OpEq, symbols("a"), symbols("a"), bools(1))
	wantDo(t, api.OpSub, times(), times(), ints())
	wantDo(t, api.OpAdd, times(), one(1), times())
	wantDo(t, api.OpAdd, ints(), decs(), decs())
	wantDo(t, api.OpMin, one(greatest), decs(), decs()) // there is no element that overflows
	wantDo(t, api.OpMax, bools(), bools(), bools())
	wantDo(t, api.OpMax, bools(), one(1), ints())
	wantDo(t, api.OpGt, symbols(), symbol("a"), bools())
	wantDo(t, api.OpDiv, bools(), truth(0), ints())
}
