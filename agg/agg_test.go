package agg_test

import (
	"fmt"
	"math"
	"math/big"
	"testing"

	"quiver/agg"
	"quiver/api"
	"quiver/value"
)

const (
	null     = api.Null
	greatest = math.MaxInt64
	least    = -math.MaxInt64
)

// draws is a row of numbers that looks random, and is the same each time.
func draws(seed uint64) func(below int) int {
	return func(below int) int {
		seed = seed*6364136223846793005 + 1442695040888963407
		return int(seed>>33) % below
	}
}

func is[K comparable](t *testing.T, what string, got, want K) {
	t.Helper()
	if got != want {
		t.Fatalf("%.300s: %.300s, not %.300s", what, fmt.Sprint(got), fmt.Sprint(want))
	}
}

// The kinds of values, written out without the packages' help.
func vector(t int, n ...int64) api.V { return api.V{T: t, N: n} }
func symbols(s ...string) api.V      { return api.V{T: api.KSym, S: s} }
func atom(t int, n int64) api.V      { return api.V{T: -t, N: []int64{n}} }
func symbol(s string) api.V          { return api.V{T: -api.KSym, S: []string{s}} }
func list(l ...api.V) api.V          { return api.V{T: api.KList, L: l} }
func dict(k, v api.V) api.V          { return api.V{T: api.KDict, L: []api.V{k, v}} }
func lambda(s string) api.V          { return api.V{T: api.KLambda, S: []string{s}} }
func nothing() api.V                 { return api.V{T: api.KNil} }
func bools(n ...int64) api.V         { return vector(api.KBool, n...) }
func ints(n ...int64) api.V          { return vector(api.KInt, n...) }
func times(n ...int64) api.V         { return vector(api.KTime, n...) }
func decs(n ...int64) api.V          { return vector(api.KDec, n...) }
func truth(n int64) api.V            { return atom(api.KBool, n) }
func one(n int64) api.V              { return atom(api.KInt, n) }
func at(n int64) api.V               { return atom(api.KTime, n) }
func dec(n int64) api.V              { return atom(api.KDec, n) }
func table(name string, l api.V) api.V {
	return api.V{T: api.KTable, S: []string{name}, L: []api.V{l}}
}

// others are values that are no vectors and no lists.
func others() []api.V {
	t := table("a", ints(1, 2))
	return []api.V{t, table("a", ints()), dict(ints(1), ints(2)), dict(list(), ints()), dict(t, t), lambda("{x}"), nothing(), one(1), one(null), truth(1), truth(0), at(1), dec(1), symbol("a"), symbol("")}
}

// vectors are some of each type: of no elements, of nulls, of one, of several.
func vectors() []api.V {
	l := []api.V{bools(), bools(1), bools(0, 1, 0), symbols(), symbols("", ""), symbols("b"), symbols("b", "", "a")}
	for _, t := range []int{api.KInt, api.KTime, api.KDec} {
		l = append(l, vector(t), vector(t, null, null), vector(t, 5), vector(t, 3, null, -1, 7))
	}
	return l
}

func lists() []api.V {
	return []api.V{list(), list(ints(1)), list(one(1), symbol("a")), list(list(), one(null), ints(2, 1), list())}
}

// told is values in few words.
func told(l ...api.V) string { return fmt.Sprintf("%.300s", fmt.Sprint(l)) }

// wants holds an answer against the value that it ought to be, or the error.
func wants(t *testing.T, got api.V, e api.Errno, want api.V, wantE api.Errno, what string, handed ...api.V) {
	t.Helper()
	if e != wantE || !value.Match(got, want) || value.Check(got) != api.OK {
		t.Fatalf("%s of %s: %s, error %d; not %s, error %d", what, told(handed...), told(got), e, told(want), wantE)
	}
}

func wantDo(t *testing.T, op int, v, want api.V) {
	t.Helper()
	got, e := agg.Do(op, v)
	wants(t, got, e, want, api.OK, fmt.Sprint("Do ", op), v)
}

func wantDoError(t *testing.T, op int, v api.V, want api.Errno) {
	t.Helper()
	got, e := agg.Do(op, v)
	wants(t, got, e, api.V{}, want, fmt.Sprint("Do ", op), v)
}

// TestExamples: the chapter's examples.
func TestExamples(t *testing.T) {
	wantDo(t, api.AggSum, ints(1, null, 2), one(3))
	wantDo(t, api.AggAvg, ints(1, 2), one(1))
	wantDo(t, api.AggAvg, ints(-1, -2), one(-2))
	wantDo(t, api.AggSum, ints(greatest, 1, -1), one(greatest))
	wantAlong(t, "Sums", ints(1, null, 2), ints(1, 1, 3))
	wantAlong(t, "Deltas", ints(5, 7, 6), ints(5, 2, -1))
	wantGrade(t, ints(2, 1, 2), true, 0, 2, 1)
	wantFind(t, ints(1, 2, 1), one(1), 0)
}

// TestDo: P8.1: the table, a row at a time.
func TestDo(t *testing.T) {
	for _, c := range []struct {
		op      int
		v, want api.V
	}{
		{api.AggCount, ints(1, null, 2), one(3)},
		{api.AggCount, symbols("", ""), one(2)},
		{api.AggCount, bools(), one(0)},
		{api.AggCount, list(), one(0)},
		{api.AggCount, list(ints(1, 2, 3), list()), one(2)},
		{api.AggFirst, ints(null, 1), one(null)},
		{api.AggFirst, decs(3, 1), dec(3)},
		{api.AggFirst, bools(), truth(0)},
		{api.AggFirst, times(), at(null)},
		{api.AggFirst, symbols(), symbol("")},
		{api.AggFirst, list(), list()},
		{api.AggFirst, list(list(), ints(1)), list()},
		{api.AggFirst, list(table("a", ints(1)), ints(1)), table("a", ints(1))},
		{api.AggLast, ints(1, null), one(null)},
		{api.AggLast, symbols("a", "b"), symbol("b")},
		{api.AggLast, bools(0, 1), truth(1)},
		{api.AggLast, bools(), truth(0)},
		{api.AggLast, decs(), dec(null)},
		{api.AggLast, ints(), one(null)},
		{api.AggLast, list(), list()},
		{api.AggLast, list(ints(1), lambda("{x}")), lambda("{x}")},
		{api.AggSum, bools(1, 0, 1), one(2)},
		{api.AggSum, bools(), one(0)},
		{api.AggSum, ints(), one(0)},
		{api.AggSum, ints(null, null), one(0)},
		{api.AggSum, decs(15000, null, -1), dec(14999)},
		{api.AggSum, decs(), dec(0)},
		{api.AggMin, ints(3, null, -1, 7), one(-1)},
		{api.AggMax, ints(3, null, -1, 7), one(7)},
		{api.AggMax, ints(null, least), one(least)},
		{api.AggMin, bools(1, 0, 1), truth(0)},
		{api.AggMin, bools(1, 1), truth(1)},
		{api.AggMax, bools(0, 1), truth(1)},
		{api.AggMax, bools(0, 0), truth(0)},
		{api.AggMin, bools(), truth(0)},
		{api.AggMax, bools(), truth(0)},
		{api.AggMin, symbols("b", "", "ab", "b"), symbol("ab")},
		{api.AggMax, symbols("b", "ba", ""), symbol("ba")},
		{api.AggMin, symbols("\xff", "é"), symbol("é")},
		{api.AggMin, symbols("", ""), symbol("")},
		{api.AggMax, symbols(), symbol("")},
		{api.AggMin, times(9, 4), at(4)},
		{api.AggMax, times(null, null), at(null)},
		{api.AggMin, decs(-5, -6), dec(-6)},
		{api.AggMax, decs(), dec(null)},
		{api.AggAvg, ints(1, null, 2), one(1)},
		{api.AggAvg, ints(-1, null, -2), one(-2)},
		{api.AggAvg, ints(-4), one(-4)},
		{api.AggAvg, ints(), one(null)},
		{api.AggAvg, ints(null), one(null)},
		{api.AggAvg, bools(1, 1, 0), one(0)},
		{api.AggAvg, bools(1, 1), one(1)},
		{api.AggAvg, bools(), one(null)},
		{api.AggAvg, times(10, 15, null), at(12)},
		{api.AggAvg, times(-10, -15), at(-13)},
		{api.AggAvg, times(null), at(null)},
		{api.AggAvg, decs(15000, 20000), dec(17500)},
		{api.AggAvg, decs(0, -1), dec(-1)},
		{api.AggAvg, decs(), dec(null)},
	} {
		wantDo(t, c.op, c.v, c.want)
	}
}

// TestDoErrors: P8.1: what an op is not of, and the first of several errors.
func TestDoErrors(t *testing.T) {
	for _, op := range []int{-1, api.AggAvg + 1, math.MinInt, math.MaxInt} {
		for _, v := range append(others(), ints(1), list(), ints(greatest, greatest)) {
			wantDoError(t, op, v, api.ErrArg)
		}
	}
	for op := range api.AggAvg + 1 {
		for _, v := range others() {
			wantDoError(t, op, v, api.ErrType)
		}
	}
	for op := api.AggSum; op <= api.AggAvg; op++ {
		for _, v := range lists() {
			wantDoError(t, op, v, api.ErrType)
		}
	}
	for _, v := range []api.V{symbols(), symbols("a"), symbols("")} {
		wantDoError(t, api.AggSum, v, api.ErrType)
		wantDoError(t, api.AggAvg, v, api.ErrType)
	}
	for _, v := range []api.V{times(), times(1), times(null), times(greatest, greatest)} {
		wantDoError(t, api.AggSum, v, api.ErrType)
	}
}

// TestSumOverflow: P8.1: sums that are beyond the numbers, and just within, whatever comes on the way.
func TestSumOverflow(t *testing.T) {
	for _, make := range []func(...int64) api.V{ints, decs} {
		for _, v := range []api.V{
			make(greatest, 1),
			make(least, -1), // it is the least int64
			make(least, -2),
			make(least, least),
			make(greatest, greatest),
			make(greatest, null, 1),
			make(-1<<62, -1<<62),
			make(1<<62, 1<<62),
			make(greatest, greatest, greatest, least),
			make(many(greatest, api.MaxCount)...),
			make(many(least, api.MaxCount)...),
		} {
			wantDoError(t, api.AggSum, v, api.ErrOverflow)
		}
	}
	wantDo(t, api.AggSum, decs(greatest, greatest, least), dec(greatest))
	wantDo(t, api.AggSum, ints(least, least, greatest), one(least))
	wantDo(t, api.AggSum, ints(least, -1, 1), one(least))
	wantDo(t, api.AggSum, ints(greatest-1, 1), one(greatest))
	wantDo(t, api.AggSum, ints(-greatest+1, -1), one(least))
	wantDo(t, api.AggSum, ints(append(many(greatest, api.MaxCount/2), many(least, api.MaxCount/2)...)...), one(0))
	wantDo(t, api.AggSum, ints(append(many(least, api.MaxCount/2), many(greatest, api.MaxCount/2)...)...), one(0))
	wantDo(t, api.AggSum, ints(many(1<<47-1, api.MaxCount)...), one(1<<63-1<<16))
	wantDo(t, api.AggSum, bools(many(1, api.MaxCount)...), one(api.MaxCount))
}

// TestAvgEdges: P8.1: an avg never overflows, and is rounded down.
func TestAvgEdges(t *testing.T) {
	for _, n := range []int64{greatest, least, 0, 1, -1, 1 << 32, -1 << 32, 1<<32 - 1} {
		wantDo(t, api.AggAvg, ints(n), one(n))
		wantDo(t, api.AggAvg, ints(many(n, 7)...), one(n))
		wantDo(t, api.AggAvg, decs(many(n, api.MaxCount)...), dec(n))
	}
	wantDo(t, api.AggAvg, ints(greatest, greatest-1), one(greatest-1))
	wantDo(t, api.AggAvg, ints(least, least+1), one(least))
	wantDo(t, api.AggAvg, times(greatest, least), at(0))
	wantDo(t, api.AggAvg, times(greatest, least, -1), at(-1))
	wantDo(t, api.AggAvg, times(greatest, least, null), at(0))
	wantDo(t, api.AggAvg, ints(append(many(least, api.MaxCount-1), least+1)...), one(least))
	wantDo(t, api.AggAvg, ints(append(many(0, api.MaxCount-1), -1)...), one(-1))
}

// many is so many numbers, all of them n.
func many(n int64, count int) []int64 {
	l := make([]int64, count)
	for i := range l {
		l[i] = n
	}
	return l
}

// flat draws a vector of that type: of some of few numbers, or of numbers at the edges.
func flat(draw func(int) int, t, count int) api.V {
	if t == api.KSym {
		l := symbols()
		for range count {
			l.S = append(l.S, []string{"", "a", "b", "ab", "\xff", "é"}[draw(6)])
		}
		return l
	}
	edges := []int64{null, 0, 1, -1, 2, greatest, least, greatest - 1, least + 1, 1 << 32, -1 << 32, 1<<32 - 1, 1 << 62, -1 << 62}
	few := 1 + draw(len(edges))
	l := vector(t)
	for range count {
		switch n := int64(draw(1 << 30)); {
		case t == api.KBool:
			l.N = append(l.N, n&1)
		case few < 6:
			l.N = append(l.N, edges[draw(few)])
		case draw(2) == 0:
			l.N = append(l.N, edges[draw(len(edges))])
		default:
			l.N = append(l.N, n*n*int64(draw(3)-1))
		}
	}
	return l
}

// sequence draws a vector or a list.
func sequence(draw func(int) int) api.V {
	if k := draw(7); k >= api.KBool && k <= api.KDec {
		return flat(draw, k, draw(7))
	}
	l := list()
	few := append(others(), ints(1, 2), ints(1), symbols("a"), list(), list(ints(1)), list(ints(1), one(2)))
	few = append(few[:6], few[7:]...) // no list has nothing in it
	kinds := 1 + draw(len(few))
	for range draw(8) {
		l.L = append(l.L, few[draw(kinds)])
	}
	return value.Of(l.L...)
}

// elements are those of a sequence, as values.
func elements(v api.V) []api.V {
	l := append([]api.V{}, v.L...)
	for _, n := range v.N {
		l = append(l, atom(v.T, n))
	}
	for _, s := range v.S {
		l = append(l, symbol(s))
	}
	return l
}

// isNull tells whether an element of a vector is null.
func isNull(x api.V) bool {
	return x.T == -api.KSym && x.S[0] == "" || x.T < -api.KBool && x.T != -api.KSym && x.N[0] == null
}

// nullOf is what stands for no element of a sequence of that type.
func nullOf(t int) api.V {
	switch t {
	case api.KList:
		return list()
	case api.KBool:
		return truth(0)
	case api.KSym:
		return symbol("")
	}
	return atom(t, null)
}

// bigSum is the sum of all elements of a vector that are not null, without a bound, and how many they are.
func bigSum(v api.V) (*big.Int, int64) {
	sum, some := new(big.Int), int64(0)
	for _, x := range elements(v) {
		if !isNull(x) {
			sum.Add(sum, big.NewInt(x.N[0]))
			some++
		}
	}
	return sum, some
}

// wholeType is the type of a sum.
func wholeType(t int) int { return max(t, api.KInt) }

// reduced is what Do of a vector, or of a list and one of the first three ops, ought to answer.
func reduced(op int, v api.V) (api.V, api.Errno) {
	l := elements(v)
	switch op {
	case api.AggCount:
		return one(int64(len(l))), api.OK
	case api.AggFirst:
		return append(l, nullOf(v.T))[0], api.OK
	case api.AggLast:
		return append([]api.V{nullOf(v.T)}, l...)[len(l)], api.OK
	case api.AggMin, api.AggMax:
		best, found := nullOf(v.T), false
		for _, x := range l {
			if !isNull(x) && (!found || op == api.AggMin && value.Compare(x, best) < 0 || op == api.AggMax && value.Compare(x, best) > 0) {
				best, found = x, true
			}
		}
		return best, api.OK
	}
	sum, some := bigSum(v)
	if op == api.AggAvg {
		if some == 0 {
			return atom(wholeType(v.T), null), api.OK
		}
		sum.Div(sum, big.NewInt(some)) // Euclid's: it rounds down, for what divides is above 0
	}
	if !sum.IsInt64() || sum.Int64() == null {
		return api.V{}, api.ErrOverflow
	}
	return atom(wholeType(v.T), sum.Int64()), api.OK
}

// isOf tells whether op is of the type of a vector, or of a list: P8.1's table once more.
func isOf(op, t int) bool {
	switch op {
	case api.AggCount, api.AggFirst, api.AggLast:
		return true
	case api.AggMin, api.AggMax:
		return t != api.KList
	case api.AggAvg:
		return t == api.KBool || t == api.KInt || t == api.KTime || t == api.KDec
	}
	return t == api.KBool || t == api.KInt || t == api.KDec
}

// TestDoDrawn: P8.1: drawn sequences, against sums without a bound.
func TestDoDrawn(t *testing.T) {
	draw := draws(81)
	overflows := 0
	for range 30000 {
		v := sequence(draw)
		for op := range api.AggAvg + 1 {
			if !isOf(op, v.T) {
				wantDoError(t, op, v, api.ErrType)
				continue
			}
			want, wantE := reduced(op, v)
			if wantE == api.ErrOverflow {
				overflows++
			}
			got, e := agg.Do(op, v)
			wants(t, got, e, want, wantE, fmt.Sprint("Do ", op), v)
		}
	}
	is(t, "some overflow", overflows > 500, true)
}

// TestBetween: P8.7.
func TestBetween(t *testing.T) {
	draw := draws(82)
	for range 20000 {
		v := flat(draw, []int{api.KInt, api.KTime, api.KDec}[draw(3)], 1+draw(6))
		lo, e := agg.Do(api.AggMin, v)
		is(t, told(v), e, api.OK)
		hi, e := agg.Do(api.AggMax, v)
		is(t, told(v), e, api.OK)
		mean, e := agg.Do(api.AggAvg, v)
		is(t, told(v), e, api.OK)
		is(t, told(v), value.Compare(lo, mean) <= 0 && value.Compare(mean, hi) <= 0, true)
		for _, x := range []api.V{lo, hi} {
			place, e := agg.Find(v, x)
			is(t, told(v), e, api.OK)
			is(t, told(v), place < value.Count(v), true)
		}
	}
}
