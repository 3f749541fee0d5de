package vec_test

import (
	"math/big"
	"strings"
	"testing"

	"quiver/api"
	"quiver/value"
	"quiver/vec"
)

// The table of P7.1 once more: of each operation the pairs of types that it is of, and the type of what comes.
var pairs = [...]string{
	api.OpAdd: "bbi bii ibi iii ddd bdd idd dbd did tbt tit btt itt",
	api.OpSub: "bbi bii ibi iii ddd bdd idd dbd did tbt tit tti",
	api.OpMul: "bbi bii ibi iii bdd idd dbd did ddd",
	api.OpDiv: "bbi bii ibi iii dbd did ddd bdd idd",
	api.OpMod: "bbi bii ibi iii ddd",
	api.OpMin: "bbb bii ibi iii ddd ttt bdd idd dbd did",
	api.OpMax: "bbb bii ibi iii ddd ttt bdd idd dbd did",
	api.OpEq:  "bbb bib ibb iib ddb ttb bdb idb dbb dib ssb",
	api.OpLt:  "bbb bib ibb iib ddb ttb bdb idb dbb dib ssb",
	api.OpGt:  "bbb bib ibb iib ddb ttb bdb idb dbb dib ssb",
}

const letters = " bistd" // at KBool, KInt, ..

// wantType is the type of what comes of two types, and 0, if nothing does.
func wantType(op, a, b int) int {
	for _, row := range strings.Fields(pairs[op]) {
		if row[0] == letters[a] && row[1] == letters[b] {
			return strings.IndexByte(letters, row[2])
		}
	}
	return 0
}

// TestDoTypes: P7.1, P7.2: all pairs of types, of atoms and of vectors.
func TestDoTypes(t *testing.T) {
	some := []api.V{api.KBool: truth(1), api.KInt: one(1), api.KSym: symbol("a"), api.KTime: at(1), api.KDec: dec(1)}
	for op := range api.OpGt + 1 {
		for a := api.KBool; a <= api.KDec; a++ {
			for b := api.KBool; b <= api.KDec; b++ {
				x, y := value.Of(some[a], some[a]), value.Of(some[b], some[b])
				want := wantType(op, a, b)
				if want == 0 {
					for _, e := range []api.V{some[a], x, value.Empty(a)} {
						wantDoError(t, op, e, some[b], api.ErrType)
						wantDoError(t, op, e, y, api.ErrType)
						wantDoError(t, op, e, value.Empty(b), api.ErrType)
					}
					continue
				}
				wantDo(t, op, value.Empty(a), value.Empty(b), value.Empty(want))
				wantDo(t, op, value.Empty(a), some[b], value.Empty(want))
				v, e := vec.Do(op, some[a], some[b])
				is(t, told(some[a], some[b]), e, api.OK)
				is(t, told(some[a], some[b]), v.T, -want)
				for _, two := range [][]api.V{{x, y}, {some[a], y}, {x, some[b]}} {
					wantDo(t, op, two[0], two[1], value.Of(v, v))
				}
			}
		}
	}
}

// The numbers of P7.1, worked out without a bound.

func number(n int64) *big.Int { return big.NewInt(n) }

func times10000(n *big.Int) *big.Int { return n.Mul(n, number(10000)) }

func fits(n *big.Int) (int64, api.Errno) {
	if n.CmpAbs(number(greatest)) > 0 {
		return 0, api.ErrOverflow
	}
	return n.Int64(), api.OK
}

// floor is a divided by b, rounded down.
func floor(a, b *big.Int) *big.Int {
	if b.Sign() < 0 {
		a, b = a.Neg(a), b.Neg(b)
	}
	return a.Div(a, b)
}

// inDecs is a number of a type as one of ten-thousandths.
func inDecs(t int, n int64) *big.Int {
	if t == api.KDec {
		return number(n)
	}
	return times10000(number(n))
}

// wantOrder is how two numbers stand to each other.
func wantOrder(ta, tb int, a, b int64) int {
	if a == null || b == null {
		return number(a).Cmp(number(b))
	}
	if (ta == api.KDec) != (tb == api.KDec) {
		return inDecs(ta, a).Cmp(inDecs(tb, b))
	}
	return number(a).Cmp(number(b))
}

// asDec is a number of a type as a dec's; null stays null.
func asDec(t int, n int64) (int64, api.Errno) {
	if n == null {
		return null, api.OK
	}
	return fits(inDecs(t, n))
}

// wantChoice is the lesser of two numbers, or, if sign is -1, the greater one.
func wantChoice(sign int, ta, tb int, a, b int64) (int64, api.Errno) {
	if (ta == api.KDec) != (tb == api.KDec) {
		var e, f api.Errno
		a, e = asDec(ta, a)
		b, f = asDec(tb, b)
		if e != api.OK || f != api.OK {
			return 0, api.ErrOverflow
		}
	}
	if sign*number(a).Cmp(number(b)) < 0 {
		return a, api.OK
	}
	return b, api.OK
}

// wantSum is the sum, or the difference, if sign is -1.
func wantSum(sign int64, ta, tb int, a, b int64) (int64, api.Errno) {
	x, y := number(a), number(b)
	if (ta == api.KDec) != (tb == api.KDec) {
		x, y = inDecs(ta, a), inDecs(tb, b)
	}
	for _, n := range []*big.Int{x, y} {
		if _, e := fits(n); e != api.OK {
			return 0, e
		}
	}
	return fits(x.Add(x, y.Mul(y, number(sign))))
}

// wantQuotient is a divided by b.
func wantQuotient(ta, tb int, a, b int64) (int64, api.Errno) {
	x := number(a)
	if tb == api.KDec {
		times10000(x)
		if ta != api.KDec {
			times10000(x)
		}
	}
	return fits(floor(x, number(b)))
}

// wantNumber is what comes of two numbers.
func wantNumber(op, ta, tb int, a, b int64) (int64, api.Errno) {
	told := map[bool]int64{true: 1}
	switch op {
	case api.OpMin:
		return wantChoice(1, ta, tb, a, b)
	case api.OpMax:
		return wantChoice(-1, ta, tb, a, b)
	case api.OpEq:
		return told[wantOrder(ta, tb, a, b) == 0], api.OK
	case api.OpLt:
		return told[wantOrder(ta, tb, a, b) < 0], api.OK
	case api.OpGt:
		return told[wantOrder(ta, tb, a, b) > 0], api.OK
	}
	if a == null || b == null {
		return null, api.OK
	}
	switch op {
	case api.OpAdd:
		return wantSum(1, ta, tb, a, b)
	case api.OpSub:
		return wantSum(-1, ta, tb, a, b)
	case api.OpMul:
		product := number(a)
		product.Mul(product, number(b))
		if ta == api.KDec && tb == api.KDec {
			product = floor(product, number(10000))
		}
		return fits(product)
	}
	if b == 0 {
		return null, api.OK
	}
	if op == api.OpDiv {
		return wantQuotient(ta, tb, a, b)
	}
	q := floor(number(a), number(b))
	return fits(q.Sub(number(a), q.Mul(q, number(b))))
}

// wantDone holds Do of two numbers against what is worked out.
func wantDone(t *testing.T, op, ta, tb int, a, b int64) {
	t.Helper()
	n, e := wantNumber(op, ta, tb, a, b)
	if e != api.OK {
		wantDoError(t, op, atom(ta, a), atom(tb, b), e)
		return
	}
	v, got := vec.Do(op, atom(ta, a), atom(tb, b))
	if got != api.OK || len(v.N) != 1 || v.N[0] != n || v.T != -wantType(op, ta, tb) {
		t.Fatalf("%d of %d of type %d and %d of type %d: %v, error %d; not %d", op, a, ta, b, tb, v, got, n)
	}
}

// eachPair goes over the operations and the types of numbers that they are of.
func eachPair(call func(op, ta, tb int)) {
	for op := range api.OpGt + 1 {
		for ta := api.KBool; ta <= api.KDec; ta++ {
			for tb := api.KBool; tb <= api.KDec; tb++ {
				if ta != api.KSym && wantType(op, ta, tb) != 0 {
					call(op, ta, tb)
				}
			}
		}
	}
}

// edges are numbers at which something changes.
func edges(t int) []int64 {
	if t == api.KBool {
		return []int64{0, 1}
	}
	l := []int64{null, 0}
	for _, n := range []int64{1, 2, 3, 7, 9999, 10000, 10001, 15000, 1 << 31, 1 << 32, 3037000499, 3037000500, 303700049997, 303700049998, greatest / 100000000, greatest/100000000 + 1, greatest / 10000, greatest/10000 + 1, 1 << 62, greatest - 10000, greatest - 1, greatest} {
		l = append(l, n, -n)
	}
	return l
}

// TestDoEdges: P7.1: all pairs of numbers at which something changes.
func TestDoEdges(t *testing.T) {
	eachPair(func(op, ta, tb int) {
		for _, a := range edges(ta) {
			for _, b := range edges(tb) {
				wantDone(t, op, ta, tb, a, b)
			}
		}
	})
}

// drawnNumber draws one of any size, often an edge.
func drawnNumber(draw func(int) int, t int) int64 {
	if t == api.KBool || draw(8) == 0 {
		l := edges(t)
		return l[draw(len(l))]
	}
	n := int64(uint64(draw(1<<31))<<33|uint64(draw(1<<31))<<2) >> draw(63)
	return max(n, least)
}

// TestDoDrawn: P7.1: drawn numbers.
func TestDoDrawn(t *testing.T) {
	draw := draws(71)
	eachPair(func(op, ta, tb int) {
		for range 2000 {
			wantDone(t, op, ta, tb, drawnNumber(draw, ta), drawnNumber(draw, tb))
		}
	})
}

// TestDoBorder: P7.1: products and quotients that are just within the numbers, or just beyond.
func TestDoBorder(t *testing.T) {
	draw := draws(72)
	sign := func() int64 { return int64(1 - 2*draw(2)) }
	near := func(n int64) int64 { return sign() * (n - 3 + int64(draw(7))) }
	bound := func(times, by int64) int64 {
		n := number(greatest)
		return floor(n.Mul(n, number(times)), number(by)).Int64()
	}
	for range 5000 {
		b := 10000 + int64(draw(1<<30))<<draw(20)
		wantDone(t, api.OpMul, api.KDec, api.KDec, near(bound(10000, b)), sign()*b)
		wantDone(t, api.OpMul, api.KInt, api.KDec, near(bound(1, b)), sign()*b)
		wantDone(t, api.OpMul, api.KInt, api.KInt, sign()*b, near(bound(1, b)))
		few := 1 + int64(draw(9999))
		wantDone(t, api.OpDiv, api.KDec, api.KDec, near(bound(few, 10000)), sign()*few)
		more := 1 + int64(draw(99999999))
		wantDone(t, api.OpDiv, api.KInt, api.KDec, near(bound(more, 100000000)), sign()*more)
	}
}

// TestOrderExact: P7.1: an int and a dec, by what they stand for.
func TestOrderExact(t *testing.T) {
	draw := draws(73)
	for range 5000 {
		n := int64(draw(1<<31)) << draw(20) >> draw(40)
		for _, whole := range []int64{n, -n} {
			for by := int64(-2); by <= 2; by++ {
				for op := api.OpEq; op <= api.OpGt; op++ {
					if dec := inDecs(api.KInt, whole); dec.IsInt64() {
						wantDone(t, op, api.KInt, api.KDec, whole, dec.Int64()+by)
						wantDone(t, op, api.KDec, api.KInt, dec.Int64()+by, whole)
					}
				}
			}
		}
	}
}

// flat draws a vector of so many elements.
func flat(draw func(int) int, t, count int) api.V {
	v := api.V{T: t}
	for range count {
		switch t {
		case api.KSym:
			v.S = append(v.S, []string{"", "a", "b", "ab", "\xff\x01"}[draw(5)])
		case api.KBool:
			v.N = append(v.N, int64(draw(2)))
		default:
			v.N = append(v.N, []int64{null, -7, -1, 0, 1, 3, 10000, drawnNumber(draw, t)}[draw(8)])
		}
	}
	return v
}

// element is what a vector has at a place, as an atom.
func element(v api.V, i int) api.V {
	if v.T == api.KSym {
		return symbol(v.S[i])
	}
	return atom(v.T, v.N[i])
}

// wantExtended is Do of two vectors, element by element, of atoms.
func wantExtended(op int, a, b api.V) (api.V, api.Errno) {
	want := api.V{T: wantType(op, a.T, b.T)}
	for i := range value.Count(a) {
		v, e := vec.Do(op, element(a, i), element(b, i))
		if e != api.OK {
			return api.V{}, e
		}
		want.N = append(want.N, v.N...)
	}
	return want, api.OK
}

// TestExtend: P7.2, P7.10: each element of Do of two vectors is Do of the two elements, and an atom is a vector of it.
func TestExtend(t *testing.T) {
	draw := draws(74)
	overflows := 0
	for op := range api.OpGt + 1 {
		for range 6000 {
			ta, tb, count := 1+draw(5), 1+draw(5), draw(5)
			a, b := flat(draw, ta, count), flat(draw, tb, count)
			if wantType(op, ta, tb) == 0 {
				wantDoError(t, op, a, b, api.ErrType)
				continue
			}
			want, e := wantExtended(op, a, b)
			v, got := vec.Do(op, a, b)
			wants(t, v, got, want, e, "Do", a, b)
			if e != api.OK {
				overflows++
			}
			x := element(flat(draw, ta, 1), 0)
			repeated := api.V{T: ta}
			for range count {
				repeated.N, repeated.S = append(repeated.N, x.N...), append(repeated.S, x.S...)
			}
			want, e = wantExtended(op, repeated, b)
			v, got = vec.Do(op, x, b)
			wants(t, v, got, want, e, "Do", x, b)
			if wantType(op, tb, ta) != 0 {
				want, e = wantExtended(op, b, repeated)
				v, got = vec.Do(op, b, x)
				wants(t, v, got, want, e, "Do", b, x)
			}
		}
	}
	is(t, "some overflow", overflows > 100, true)
}

// TestRoundedDown: P7.11: b times the quotient and the rest is a; the rest has the sign of b, and is nearer to 0.
func TestRoundedDown(t *testing.T) {
	draw := draws(75)
	for range 30000 {
		a, b := drawnNumber(draw, api.KInt), drawnNumber(draw, api.KInt)
		if a == null || b == null || b == 0 {
			continue
		}
		q, e := vec.Do(api.OpDiv, one(a), one(b))
		is(t, "OpDiv", e, api.OK)
		m, e := vec.Do(api.OpMod, one(a), one(b))
		is(t, "OpMod", e, api.OK)
		n := number(b)
		n.Mul(n, number(q.N[0]))
		is(t, told(one(a), one(b)), n.Add(n, number(m.N[0])).Cmp(number(a)), 0)
		rest := number(m.N[0])
		is(t, told(one(a), one(b), m), rest.Sign() == 0 || rest.Sign() == number(b).Sign(), true)
		is(t, told(one(a), one(b), m), rest.CmpAbs(number(b)), -1)
	}
}
