package agg_test

import (
	"math/big"
	"testing"

	"quiver/agg"
	"quiver/api"
	"quiver/value"
	"quiver/vec"
)

// along are the calls that run along a vector.
func along() map[string]func(api.V) (api.V, api.Errno) {
	return map[string]func(api.V) (api.V, api.Errno){"Sums": agg.Sums, "Mins": agg.Mins, "Maxs": agg.Maxs, "Deltas": agg.Deltas}
}

func wantAlong(t *testing.T, name string, v, want api.V) {
	t.Helper()
	got, e := along()[name](v)
	wants(t, got, e, want, api.OK, name, v)
}

func wantAlongError(t *testing.T, name string, v api.V, want api.Errno) {
	t.Helper()
	got, e := along()[name](v)
	wants(t, got, e, api.V{}, want, name, v)
}

// TestSums: P8.4.
func TestSums(t *testing.T) {
	wantAlong(t, "Sums", ints(null, null, 1, null, -5), ints(0, 0, 1, 1, -4))
	wantAlong(t, "Sums", ints(), ints())
	wantAlong(t, "Sums", bools(), ints())
	wantAlong(t, "Sums", bools(1, 0, 1), ints(1, 1, 2))
	wantAlong(t, "Sums", decs(15000, null, 1), decs(15000, 15000, 15001))
	wantAlong(t, "Sums", decs(), decs())
	wantAlong(t, "Sums", ints(greatest, least, least, 0), ints(greatest, 0, least, least))
	for _, v := range []api.V{ints(greatest, 1, -1), ints(least, -1, 1), ints(least, -1), decs(0, greatest, greatest, least), ints(1, null, greatest), ints(many(greatest, api.MaxCount)...)} {
		wantAlongError(t, "Sums", v, api.ErrOverflow)
	}
}

// TestMinsMaxs: P8.4.
func TestMinsMaxs(t *testing.T) {
	wantAlong(t, "Mins", ints(null, 3, 1, null, 2), ints(null, 3, 1, 1, 1))
	wantAlong(t, "Maxs", ints(null, null, 3, 1, 7, null), ints(null, null, 3, 3, 7, 7))
	wantAlong(t, "Maxs", ints(null, least, greatest), ints(null, least, greatest))
	wantAlong(t, "Mins", bools(1, 0, 1), bools(1, 0, 0))
	wantAlong(t, "Maxs", bools(0, 1, 0), bools(0, 1, 1))
	wantAlong(t, "Mins", symbols("", "b", "", "ab", "c"), symbols("", "b", "b", "ab", "ab"))
	wantAlong(t, "Maxs", symbols("", "b", "", "ab", "c"), symbols("", "b", "b", "b", "c"))
	wantAlong(t, "Mins", times(null, null), times(null, null))
	wantAlong(t, "Maxs", times(4, 5, 4), times(4, 5, 5))
	wantAlong(t, "Mins", decs(4, 5, -4), decs(4, 4, -4))
	for k := api.KBool; k <= api.KDec; k++ {
		wantAlong(t, "Mins", api.V{T: k}, api.V{T: k})
		wantAlong(t, "Maxs", api.V{T: k}, api.V{T: k})
	}
}

// TestDeltas: P8.4.
func TestDeltas(t *testing.T) {
	wantAlong(t, "Deltas", ints(null, 1, 3, null, 4), ints(null, null, 2, null, null))
	wantAlong(t, "Deltas", ints(5), ints(5))
	wantAlong(t, "Deltas", ints(), ints())
	wantAlong(t, "Deltas", bools(1, 1, 0, 1), ints(1, 0, -1, 1))
	wantAlong(t, "Deltas", bools(0), ints(0))
	wantAlong(t, "Deltas", bools(), ints())
	wantAlong(t, "Deltas", decs(-5, 7), decs(-5, 12))
	wantAlong(t, "Deltas", decs(null), decs(null))
	wantAlong(t, "Deltas", decs(), decs())
	wantAlong(t, "Deltas", times(5, 7, 4), ints(0, 2, -3))
	wantAlong(t, "Deltas", times(null, 7, null), ints(0, null, null))
	wantAlong(t, "Deltas", times(5), ints(0))
	wantAlong(t, "Deltas", times(), ints())
	wantAlong(t, "Deltas", ints(1, greatest, 0, least), ints(1, greatest-1, least, least))
	for _, v := range []api.V{ints(-1, greatest), ints(1, least), ints(0, 1, least, greatest), decs(-2, greatest), times(least, 1), times(1, least)} {
		wantAlongError(t, "Deltas", v, api.ErrOverflow)
	}
}

// TestAlongTypes: P8.4: what they are of.
func TestAlongTypes(t *testing.T) {
	for name := range along() {
		for _, v := range append(lists(), others()...) {
			wantAlongError(t, name, v, api.ErrType)
		}
	}
	for _, v := range []api.V{symbols(), symbols("a"), symbols("a", "")} {
		wantAlongError(t, "Sums", v, api.ErrType)
		wantAlongError(t, "Deltas", v, api.ErrType)
	}
	for _, v := range []api.V{times(), times(1), times(greatest, greatest)} {
		wantAlongError(t, "Sums", v, api.ErrType)
	}
}

// TestAlongDrawn: P8.4: each place is Do of what is up to it; of Deltas the difference.
func TestAlongDrawn(t *testing.T) {
	draw := draws(84)
	for range 20000 {
		v := flat(draw, 1+draw(5), draw(7))
		for name, op := range map[string]int{"Sums": api.AggSum, "Mins": api.AggMin, "Maxs": api.AggMax} {
			if !isOf(op, v.T) {
				continue
			}
			want, wantE := value.Empty(v.T), api.OK
			if op == api.AggSum {
				want = value.Empty(wholeType(v.T))
			}
			for i := range value.Count(v) {
				x, e := reduced(op, piece(v, 0, i+1))
				if e != api.OK {
					want, wantE = api.V{}, e
					break
				}
				want.N, want.S = append(want.N, x.N...), append(want.S, x.S...)
			}
			got, e := along()[name](v)
			wants(t, got, e, want, wantE, name, v)
		}
		if v.T != api.KSym {
			want, wantE := stepsOf(v)
			got, e := agg.Deltas(v)
			wants(t, got, e, want, wantE, "Deltas", v)
		}
	}
}

// stepsOf is what Deltas of numbers ought to answer.
func stepsOf(v api.V) (api.V, api.Errno) {
	l := ints()
	if v.T == api.KDec {
		l = decs()
	}
	for i, n := range v.N {
		switch {
		case i == 0 && v.T == api.KTime:
			n = 0
		case i > 0 && n != null && v.N[i-1] != null:
			step := new(big.Int).Sub(big.NewInt(n), big.NewInt(v.N[i-1]))
			if !step.IsInt64() || step.Int64() == null {
				return api.V{}, api.ErrOverflow
			}
			n = step.Int64()
		case i > 0:
			n = null
		}
		l.N = append(l.N, n)
	}
	return l, api.OK
}

// TestThereAndBack: P8.8.
func TestThereAndBack(t *testing.T) {
	draw := draws(85)
	back := 0
	for range 20000 {
		v, e := vec.Fill(one(int64(draw(9))), flat(draw, api.KInt, draw(8)))
		is(t, "Fill", e, api.OK)
		steps, e := agg.Deltas(v)
		if e != api.OK {
			is(t, told(v), e, api.ErrOverflow)
			continue
		}
		wantAlong(t, "Sums", steps, v)
		back++
	}
	is(t, "some do not overflow", back > 5000, true)
}
