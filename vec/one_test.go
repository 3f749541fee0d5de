package vec_test

import (
	"math"
	"testing"

	"quiver/api"
	"quiver/value"
	"quiver/vec"
)

// TestNeg: P7.5.
func TestNeg(t *testing.T) {
	for _, c := range [][2]api.V{
		{one(5), one(-5)}, {one(-5), one(5)}, {one(0), one(0)}, {one(null), one(null)}, {one(greatest), one(least)}, {one(least), one(greatest)},
		{dec(15000), dec(-15000)}, {dec(null), dec(null)}, {truth(1), one(-1)}, {truth(0), one(0)},
		{ints(1, null, -2), ints(-1, null, 2)}, {decs(1, 0), decs(-1, 0)}, {bools(1, 0), ints(-1, 0)},
		{ints(7), ints(-7)}, {ints(), ints()}, {decs(), decs()}, {bools(), ints()},
	} {
		v, e := vec.Neg(c[0])
		wants(t, v, e, c[1], api.OK, "Neg", c[0])
	}
	for _, v := range append(others(), at(1), times(1), times(), symbol("a"), symbols("a"), symbols(), list(), list(ints(1)), list(ints(1), one(2))) {
		got, e := vec.Neg(v)
		wants(t, got, e, api.V{}, api.ErrType, "Neg", v)
	}
}

// TestNot: P7.5.
func TestNot(t *testing.T) {
	for _, c := range [][2]api.V{
		{truth(1), truth(0)}, {truth(0), truth(1)}, {bools(0, 1, 1), bools(1, 0, 0)}, {bools(), bools()},
		{one(0), truth(1)}, {one(1), truth(0)}, {one(-1), truth(0)}, {one(null), truth(0)}, {at(0), truth(1)}, {at(null), truth(0)}, {dec(1), truth(0)}, {dec(0), truth(1)},
		{ints(2, 0, null, least), bools(0, 1, 0, 0)}, {times(2, 0), bools(0, 1)}, {decs(0, greatest), bools(1, 0)},
		{ints(), bools()}, {times(), bools()}, {decs(), bools()}, {ints(0), bools(1)},
	} {
		v, e := vec.Not(c[0])
		wants(t, v, e, c[1], api.OK, "Not", c[0])
	}
	for _, v := range append(others(), symbol("a"), symbol(""), symbols(""), symbols(), list(), list(ints(1)), list(truth(1), one(2))) {
		got, e := vec.Not(v)
		wants(t, got, e, api.V{}, api.ErrType, "Not", v)
	}
}

func wantCast(t *testing.T, k int, v, want api.V) {
	t.Helper()
	got, e := vec.Cast(k, v)
	wants(t, got, e, want, api.OK, "Cast", one(int64(k)), v)
}

// TestCast: P7.9.
func TestCast(t *testing.T) {
	wantCast(t, api.KBool, bools(0, 1), bools(0, 1))
	wantCast(t, api.KBool, ints(0, 1, -2, null), bools(0, 1, 1, 0))
	wantCast(t, api.KBool, times(0, 1, null), bools(0, 1, 0))
	wantCast(t, api.KBool, decs(0, 1, -1, null), bools(0, 1, 1, 0))
	wantCast(t, api.KInt, bools(0, 1), ints(0, 1))
	wantCast(t, api.KInt, ints(5, null), ints(5, null))
	wantCast(t, api.KInt, times(5, null), ints(5, null))
	wantCast(t, api.KInt, decs(9999, 10000, -1, -10000, -10001, null, greatest, least), ints(0, 1, -1, -1, -2, null, greatest/10000, least/10000-1))
	wantCast(t, api.KTime, bools(0, 1), times(0, 1))
	wantCast(t, api.KTime, ints(5, null, least), times(5, null, least))
	wantCast(t, api.KTime, times(5), times(5))
	wantCast(t, api.KTime, decs(15000, -1, null), times(1, -1, null))
	wantCast(t, api.KDec, bools(0, 1), decs(0, 10000))
	wantCast(t, api.KDec, ints(5, -5, null, greatest/10000, least/10000), decs(50000, -50000, null, greatest/10000*10000, least/10000*10000))
	wantCast(t, api.KDec, times(5, null), decs(50000, null))
	wantCast(t, api.KDec, decs(5, null, greatest, least), decs(5, null, greatest, least))
}

// TestCastKinds: P7.9: atoms stay atoms, vectors vectors, also of no elements or of one.
func TestCastKinds(t *testing.T) {
	for _, from := range []int{api.KBool, api.KInt, api.KTime, api.KDec} {
		for _, to := range []int{api.KBool, api.KInt, api.KTime, api.KDec} {
			wantCast(t, to, vector(from), vector(to))
			wantCast(t, to, atom(from, 0), atom(to, 0))
			wantCast(t, to, vector(from, 0), vector(to, 0))
		}
	}
	wantCast(t, api.KInt, dec(-5000), one(-1))
	wantCast(t, api.KDec, truth(1), dec(10000))
	wantCast(t, api.KBool, at(null), truth(0))
}

// TestCastErrors: P7.9.
func TestCastErrors(t *testing.T) {
	wrong := append(others(), symbol("a"), symbols("a"), symbols(), list(), list(ints(1)))
	for _, k := range []int{api.KList, api.KSym, -api.KBool, -api.KInt, -api.KSym, -api.KTime, -api.KDec, 6, api.KTable, api.KNil, math.MinInt, math.MaxInt} {
		for _, v := range append(wrong, ints(1), one(1), one(greatest)) {
			got, e := vec.Cast(k, v)
			wants(t, got, e, api.V{}, api.ErrArg, "Cast", one(int64(k)), v)
		}
	}
	for _, k := range []int{api.KBool, api.KInt, api.KTime, api.KDec} {
		for _, v := range wrong {
			got, e := vec.Cast(k, v)
			wants(t, got, e, api.V{}, api.ErrType, "Cast", one(int64(k)), v)
		}
	}
	for _, v := range []api.V{one(greatest/10000 + 1), one(least/10000 - 1), ints(1, 2, greatest), times(least), at(1 << 62)} {
		got, e := vec.Cast(api.KDec, v)
		wants(t, got, e, api.V{}, api.ErrOverflow, "Cast", v)
	}
}

func wantFill(t *testing.T, x, v, want api.V) {
	t.Helper()
	got, e := vec.Fill(x, v)
	wants(t, got, e, want, api.OK, "Fill", x, v)
}

// TestFill: P7.9.
func TestFill(t *testing.T) {
	wantFill(t, one(7), ints(1, null, 3, null), ints(1, 7, 3, 7))
	wantFill(t, one(7), one(null), one(7))
	wantFill(t, one(7), one(5), one(5))
	wantFill(t, one(null), ints(null, 1), ints(null, 1))
	wantFill(t, one(7), ints(), ints())
	wantFill(t, at(7), times(null, 0), times(7, 0))
	wantFill(t, dec(7), decs(null, least), decs(7, least))
	wantFill(t, symbol("x"), symbols("", "a", ""), symbols("x", "a", "x"))
	wantFill(t, symbol("x"), symbol(""), symbol("x"))
	wantFill(t, symbol("x"), symbols(), symbols())
	wantFill(t, truth(1), bools(0, 1), bools(0, 1)) // of bools none is null
	wantFill(t, truth(1), truth(0), truth(0))
	atoms := []api.V{truth(1), one(1), symbol("a"), at(1), dec(1)}
	for i, x := range atoms {
		for j, y := range atoms {
			for _, v := range []api.V{y, value.Of(y), value.Empty(y.T)} {
				if i != j {
					got, e := vec.Fill(x, v)
					wants(t, got, e, api.V{}, api.ErrType, "Fill", x, v)
				}
				got, e := vec.Fill(value.Of(x), v)
				wants(t, got, e, api.V{}, api.ErrType, "Fill", value.Of(x), v)
			}
		}
		for _, v := range append(others(), list(), list(ints(1)), list(x, ints(1))) {
			got, e := vec.Fill(x, v)
			wants(t, got, e, api.V{}, api.ErrType, "Fill", x, v)
			got, e = vec.Fill(v, x)
			wants(t, got, e, api.V{}, api.ErrType, "Fill", v, x)
			got, e = vec.Fill(v, v)
			wants(t, got, e, api.V{}, api.ErrType, "Fill", v, v)
		}
	}
}
