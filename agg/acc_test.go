package agg_test

import (
	"fmt"
	"math"
	"math/big"
	"testing"

	"quiver/agg"
	"quiver/api"
	"quiver/value"
)

func opened(t *testing.T, op int) api.Acc {
	t.Helper()
	a, e := agg.Open(op)
	is(t, "Open", e, api.OK)
	return a
}

// added is a new Acc behind these values.
func added(t *testing.T, op int, l ...api.V) api.Acc {
	t.Helper()
	return agg.Add(opened(t, op), l...)
}

func wantAcc(t *testing.T, what string, got, want api.Acc) {
	t.Helper()
	if !sameAcc(got, want) {
		t.Fatalf("%.300s: %.300s, not %.300s", what, fmt.Sprint(got), fmt.Sprint(want))
	}
}

func sameAcc(a, b api.Acc) bool {
	return a.Op == b.Op && a.T == b.T && a.Count == b.Count && a.Some == b.Some && a.Hi == b.Hi && a.Lo == b.Lo && value.Match(a.First, b.First) && value.Match(a.Last, b.Last) && a.Err == b.Err
}

func wantClose(t *testing.T, a api.Acc, want api.V, wantE api.Errno) {
	t.Helper()
	got, e := agg.Close(a)
	wants(t, got, e, want, wantE, "Close", a.First, a.Last)
}

// TestOpen: P8.2.
func TestOpen(t *testing.T) {
	for op := range api.AggAvg + 1 {
		wantAcc(t, "Open", opened(t, op), api.Acc{Op: op, T: -1})
		wantAcc(t, "Add nothing", agg.Add(opened(t, op)), api.Acc{Op: op, T: -1})
	}
	for _, op := range []int{-1, api.AggAvg + 1, math.MinInt, math.MaxInt} {
		a, e := agg.Open(op)
		is(t, "Open", e, api.ErrArg)
		wantAcc(t, "Open", a, api.Acc{})
	}
}

// TestAdd: P8.2: each field, worked out by hand.
func TestAdd(t *testing.T) {
	for _, c := range []struct {
		l    []api.V
		want api.Acc
	}{
		{[]api.V{ints(1, null)}, api.Acc{Op: api.AggCount, T: api.KInt, Count: 2, Some: 1}},
		{[]api.V{bools(0, 1)}, api.Acc{Op: api.AggCount, T: api.KBool, Count: 2, Some: 2}},
		{[]api.V{symbols("", "a")}, api.Acc{Op: api.AggCount, T: api.KSym, Count: 2, Some: 1}},
		{[]api.V{list(one(null), symbol("")), list()}, api.Acc{Op: api.AggCount, T: api.KList, Count: 2, Some: 2}},
		{[]api.V{list()}, api.Acc{Op: api.AggCount, T: api.KList}},
		{[]api.V{times()}, api.Acc{Op: api.AggFirst, T: api.KTime}},
		{[]api.V{times(), times(null), times(3)}, api.Acc{Op: api.AggFirst, T: api.KTime, Count: 2, Some: 1, First: at(null)}},
		{[]api.V{list(), list(list(), ints(1)), list(ints(2))}, api.Acc{Op: api.AggFirst, T: api.KList, Count: 3, Some: 3, First: list()}},
		{[]api.V{symbols("a", "b"), symbols()}, api.Acc{Op: api.AggLast, T: api.KSym, Count: 2, Some: 2, Last: symbol("b")}},
		{[]api.V{list(symbol("b"), ints(1)), list(list())}, api.Acc{Op: api.AggLast, T: api.KList, Count: 3, Some: 3, Last: list()}},
		{[]api.V{decs()}, api.Acc{Op: api.AggLast, T: api.KDec}},
		{[]api.V{ints(-1, null)}, api.Acc{Op: api.AggSum, T: api.KInt, Count: 2, Some: 1, Hi: -1, Lo: 1<<32 - 1}},
		{[]api.V{ints(-1), ints(1)}, api.Acc{Op: api.AggSum, T: api.KInt, Count: 2, Some: 2}},
		{[]api.V{bools(1, 0, 1)}, api.Acc{Op: api.AggSum, T: api.KBool, Count: 3, Some: 3, Lo: 2}},
		{[]api.V{decs(1 << 32), decs(1<<32 - 1), decs(1)}, api.Acc{Op: api.AggSum, T: api.KDec, Count: 3, Some: 3, Hi: 2}},
		{[]api.V{ints(greatest), ints(greatest)}, api.Acc{Op: api.AggSum, T: api.KInt, Count: 2, Some: 2, Hi: 1<<32 - 1, Lo: 1<<32 - 2}},
		{[]api.V{ints(least, least)}, api.Acc{Op: api.AggSum, T: api.KInt, Count: 2, Some: 2, Hi: -1 << 32, Lo: 2}},
		{[]api.V{ints(null)}, api.Acc{Op: api.AggMin, T: api.KInt, Count: 1}},
		{[]api.V{ints(null, 2, 1), ints(3, null)}, api.Acc{Op: api.AggMin, T: api.KInt, Count: 5, Some: 3, First: one(1)}},
		{[]api.V{symbols(""), symbols("a", "b")}, api.Acc{Op: api.AggMax, T: api.KSym, Count: 3, Some: 2, First: symbol("b")}},
		{[]api.V{bools(1), bools(0)}, api.Acc{Op: api.AggMax, T: api.KBool, Count: 2, Some: 2, First: truth(1)}},
		{[]api.V{times(7, null), times(-9)}, api.Acc{Op: api.AggAvg, T: api.KTime, Count: 3, Some: 2, Hi: -1, Lo: 1<<32 - 2}},
	} {
		wantAcc(t, told(c.l...), added(t, c.want.Op, c.l...), c.want)
		a := opened(t, c.want.Op)
		for _, v := range c.l {
			a = agg.Add(a, v)
		}
		wantAcc(t, told(c.l...), a, c.want)
	}
}

// TestAddErrors: P8.2: what is refused leaves all else, and nothing happens behind it.
func TestAddErrors(t *testing.T) {
	all := append(append(vectors(), lists()...), others()...)
	for op := range api.AggAvg + 1 {
		for _, v := range all {
			sequence := v.T >= api.KList && v.T <= api.KDec
			a := added(t, op, v)
			if !sequence || !isOf(op, v.T) {
				wantAcc(t, told(v), a, api.Acc{Op: op, T: -1, Err: api.ErrType})
				wantAcc(t, told(v), agg.Add(a, ints(1), ints(2)), a)
				wantClose(t, a, api.V{}, api.ErrType)
				continue
			}
			is(t, told(v), a.Err, api.OK)
			for _, w := range all {
				want := a
				if w.T != v.T {
					want.Err = api.ErrType
					wantAcc(t, told(v, w), agg.Add(a, w), want)
					wantAcc(t, told(v, w, v), agg.Add(a, w, v), want)
					wantClose(t, agg.Add(a, w), api.V{}, api.ErrType)
				} else {
					is(t, told(v, w), agg.Add(a, w).Err, api.OK)
				}
			}
		}
	}
}

// TestClose: P8.2: of nothing, of sums that are too great, and of those that were for a while.
func TestClose(t *testing.T) {
	wantClose(t, opened(t, api.AggCount), one(0), api.OK)
	wantClose(t, opened(t, api.AggFirst), list(), api.OK)
	wantClose(t, opened(t, api.AggLast), list(), api.OK)
	for op := api.AggSum; op <= api.AggAvg; op++ {
		wantClose(t, opened(t, op), api.V{}, api.ErrType)
		wantClose(t, agg.Merge(opened(t, op), opened(t, op)), api.V{}, api.ErrType)
	}
	wantClose(t, added(t, api.AggSum, ints()), one(0), api.OK)
	a := added(t, api.AggSum, ints(greatest), ints(1))
	is(t, "no error as yet", a.Err, api.OK)
	wantClose(t, a, api.V{}, api.ErrOverflow)
	wantClose(t, agg.Add(a, ints(-1)), one(greatest), api.OK)
	wantClose(t, added(t, api.AggSum, ints(least), ints(-1)), api.V{}, api.ErrOverflow)
	whole := ints(many(greatest, api.MaxCount)...)
	wantClose(t, added(t, api.AggAvg, whole, whole, whole), one(greatest), api.OK) // more than a vector may have
	wantClose(t, added(t, api.AggCount, whole, whole), one(2*api.MaxCount), api.OK)
}

// TestMerge: P8.3.
func TestMerge(t *testing.T) {
	a, b := added(t, api.AggAvg, ints(1, 2), ints()), added(t, api.AggAvg, ints(9))
	wantClose(t, agg.Merge(a, b), one(4), api.OK)
	wantClose(t, agg.Merge(a, b, b, opened(t, api.AggAvg)), one(5), api.OK)
	wantAcc(t, "of nothing", agg.Merge(a), a)
	for op := range api.AggAvg + 1 {
		for _, v := range append(vectors(), lists()...) {
			for _, w := range append(vectors(), lists()...) {
				if !isOf(op, v.T) || v.T != w.T {
					continue
				}
				all := added(t, op, v, w)
				wantAcc(t, told(v, w), agg.Merge(added(t, op, v), added(t, op, w)), all)
				wantAcc(t, told(v, w), agg.Merge(opened(t, op), added(t, op, v), opened(t, op), added(t, op, w)), all)
				wantAcc(t, told(v, w), agg.Merge(agg.Merge(opened(t, op), all), opened(t, op)), all)
			}
		}
	}
}

// TestMergeErrors: P8.3: unlike Ops, unlike types, errors that are handed on; the first one stays.
func TestMergeErrors(t *testing.T) {
	a, b := added(t, api.AggSum, ints(1, 2)), added(t, api.AggSum, ints(5))
	failed := func(a api.Acc, e api.Errno) api.Acc {
		a.Err = e
		return a
	}
	other, unlike, bad := added(t, api.AggMin, ints(7)), added(t, api.AggSum, decs(7)), added(t, api.AggSum, ints(3), symbols())
	for i, c := range []struct {
		a    api.Acc
		l    []api.Acc
		want api.Acc
	}{
		{a, []api.Acc{other}, failed(a, api.ErrArg)},
		{a, []api.Acc{opened(t, api.AggAvg)}, failed(a, api.ErrArg)},
		{a, []api.Acc{unlike}, failed(a, api.ErrType)},
		{a, []api.Acc{added(t, api.AggSum, decs())}, failed(a, api.ErrType)},
		{a, []api.Acc{bad}, failed(a, api.ErrType)}, // of which nothing else comes
		{opened(t, api.AggSum), []api.Acc{bad, b}, failed(opened(t, api.AggSum), api.ErrType)},
		{a, []api.Acc{b, other, b}, failed(agg.Merge(a, b), api.ErrArg)},
		{a, []api.Acc{unlike, other}, failed(a, api.ErrType)},
		{a, []api.Acc{other, unlike}, failed(a, api.ErrArg)},
		{a, []api.Acc{agg.Merge(a, other)}, failed(a, api.ErrArg)},
		{opened(t, api.AggSum), []api.Acc{agg.Merge(b, other), b}, failed(opened(t, api.AggSum), api.ErrArg)},
		{bad, []api.Acc{other, b}, bad},
		{a, []api.Acc{added(t, api.AggMin, nothing())}, failed(a, api.ErrArg)},
		{opened(t, api.AggSum), []api.Acc{unlike, b}, failed(unlike, api.ErrType)},
	} {
		got := agg.Merge(c.a, c.l...)
		wantAcc(t, fmt.Sprint(i), got, c.want)
		wantClose(t, got, api.V{}, c.want.Err)
		wantAcc(t, fmt.Sprint(i, " goes no further"), agg.Merge(agg.Add(got, ints(1)), a), c.want)
	}
}

// cut draws where a sequence of so many elements is cut.
func cut(draw func(int) int, count int) []int {
	var l []int
	for at := draw(count + 1); at < count || draw(3) > 0; at += draw(count + 2 - min(at, count)) {
		l = append(l, min(at, count))
	}
	return append(l, count)
}

// piece is what a vector has from a place on, ahead of another one.
func piece(v api.V, from, to int) api.V {
	if v.T == api.KSym {
		return symbols(v.S[from:to]...)
	}
	return vector(v.T, v.N[from:to]...)
}

// accOf is what an Acc ought to be behind a vector.
func accOf(op int, v api.V) api.Acc {
	a := api.Acc{Op: op, T: v.T, Count: int64(value.Count(v))}
	for _, x := range elements(v) {
		if !isNull(x) {
			a.Some++
		}
	}
	switch op {
	case api.AggFirst:
		if a.Count > 0 {
			a.First, _ = reduced(op, v)
		}
	case api.AggLast:
		if a.Count > 0 {
			a.Last, _ = reduced(op, v)
		}
	case api.AggMin, api.AggMax:
		if a.Some > 0 {
			a.First, _ = reduced(op, v)
		}
	case api.AggSum, api.AggAvg:
		sum, _ := bigSum(v)
		lo := new(big.Int)
		sum.DivMod(sum, big.NewInt(1<<32), lo)
		a.Hi, a.Lo = sum.Int64(), lo.Int64()
	}
	return a
}

// TestPieces: P8.6, and the fields of P8.2: however a vector is cut, added, and merged.
func TestPieces(t *testing.T) {
	draw := draws(83)
	for range 10000 {
		v := flat(draw, 1+draw(5), draw(9))
		for op := range api.AggAvg + 1 {
			if !isOf(op, v.T) {
				continue
			}
			want, wantE := agg.Do(op, v)
			one := opened(t, op)
			all := one
			accs := []api.Acc{one}
			from := 0
			for _, to := range cut(draw, value.Count(v)) {
				part := piece(v, from, to)
				from = to
				one = agg.Add(one, part)
				if draw(3) == 0 {
					accs = append(accs, opened(t, op))
				}
				last := len(accs) - 1
				accs[last] = agg.Add(accs[last], part)
				all = agg.Merge(all, added(t, op, part))
			}
			for _, a := range []api.Acc{one, all, agg.Merge(accs[0], accs[1:]...), agg.Merge(opened(t, op), accs...)} {
				wantAcc(t, "of pieces", a, accOf(op, v))
				wantClose(t, a, want, wantE)
			}
		}
	}
}
