package verbs_test

import (
	"testing"

	"quiver/api"
	"quiver/dict"
	"quiver/keyed"
	tables "quiver/table"
	"quiver/value"
	"quiver/vec"
	"quiver/verbs"
)

// flat draws an atom or a vector; of numbers more often than not.
func flat(draw func(int) int) api.V {
	kind := []int{api.KInt, api.KInt, api.KInt, api.KDec, api.KBool, api.KTime, api.KSym}[draw(7)]
	if draw(2) == 0 {
		return element(sequence(draw, kind, 1), 0)
	}
	return sequence(draw, kind, draw(4))
}

// sequence draws a vector of a type and a count.
func sequence(draw func(int) int, kind, count int) api.V {
	v := api.V{T: kind}
	for range count {
		switch kind {
		case api.KSym:
			v.S = append(v.S, []string{"", "a", "b", "ab"}[draw(4)])
		case api.KBool:
			v.N = append(v.N, int64(draw(2)))
		default:
			v.N = append(v.N, []int64{0, 1, 2, 3, -3, null, 15000, greatest}[draw(8)])
		}
	}
	return v
}

// plain draws a vector or a list of that count, in which the depth is at most so much.
func plain(draw func(int) int, depth, count int) api.V {
	if draw(2) == 0 || depth < 2 {
		return sequence(draw, 1+draw(5), count)
	}
	var l []api.V
	for range count {
		l = append(l, drawn(draw, depth-1))
	}
	return value.Of(l...)
}

// columnsOf draws a table of that many rows.
func columnsOf(draw func(int) int, depth, count int, names ...string) api.V {
	t := table(names)
	for range names {
		t.L = append(t.L, plain(draw, depth-1, count))
	}
	return t
}

// drawn draws a value that is not nothing.
func drawn(draw func(int) int, depth int) api.V {
	if depth < 3 {
		return flat(draw)
	}
	switch count := draw(4); draw(8) {
	case 0, 1:
		return plain(draw, depth, count)
	case 2:
		return pairs(plain(draw, depth-1, count), plain(draw, depth-1, count))
	case 3:
		return columnsOf(draw, depth, count, []string{"a", "b"}[:1+draw(2)]...)
	case 4:
		return pairs(columnsOf(draw, depth-1, count, []string{"k", "l"}[:1+draw(2)]...), columnsOf(draw, depth-1, count, "v"))
	case 5:
		return lambda("{x}")
	}
	return flat(draw)
}

// element is what a vector or a list has at a place.
func element(v api.V, i int) api.V { return elements(v)[i] }

// elements are those of a sequence, as values.
func elements(v api.V) []api.V {
	l := append([]api.V{}, v.L...)
	for _, n := range v.N {
		l = append(l, atom(v.T, n))
	}
	for _, s := range v.S {
		l = append(l, symbol(s))
	}
	return l
}

func isFlat(v api.V) bool     { return v.T != api.KList && v.T >= -api.KDec && v.T <= api.KDec }
func isAtom(v api.V) bool     { return v.T < 0 }
func isVector(v api.V) bool   { return v.T > api.KList && v.T <= api.KDec }
func isSequence(v api.V) bool { return v.T >= api.KList && v.T <= api.KDec }
func isKeyed(v api.V) bool    { return v.T == api.KDict && v.L[0].T == api.KTable }
func isPairs(v api.V) bool    { return v.T == api.KDict && v.L[0].T != api.KTable }

// answer is what a call tells.
type answer struct {
	v api.V
	e api.Errno
}

func right(v api.V) answer           { return answer{v, api.OK} }
func wrong(e api.Errno) answer       { return answer{api.V{}, e} }
func of(v api.V, e api.Errno) answer { return answer{v, e} }

// or is a, if it is an error, else b.
func (a answer) or(b answer) answer {
	if a.e != api.OK {
		return a
	}
	return b
}

// under is the dictionary of these keys and the answer, if that is no error.
func (a answer) under(keys api.V) answer { return a.or(right(pairs(keys, a.v))) }

// all is what f tells of each place; the first error.
func all(count int, f func(i int) answer) ([]api.V, api.Errno) {
	var l []api.V
	for i := range count {
		a := f(i)
		if a.e != api.OK {
			return nil, a.e
		}
		l = append(l, a.v)
	}
	return l, api.OK
}

// listed is value.Of of what f tells of each.
func listed(count int, f func(i int) answer) answer {
	l, e := all(count, f)
	if e != api.OK {
		return wrong(e)
	}
	return right(value.Of(l...))
}

// tabled is the table of what f tells of each column.
func tabled(t api.V, f func(column api.V) answer) answer {
	l, e := all(len(t.L), func(i int) answer { return f(t.L[i]) })
	if e != api.OK {
		return wrong(e)
	}
	return of(tables.Make(t.S, l...))
}

// atomicOne says P16.2 of an atomic verb once more.
func atomicOne(f func(api.V) (api.V, api.Errno), x api.V) answer {
	again := func(v api.V) answer { return atomicOne(f, v) }
	switch {
	case isFlat(x):
		return of(f(x))
	case x.T == api.KList:
		return listed(len(x.L), func(i int) answer { return again(x.L[i]) })
	case x.T == api.KDict:
		return again(x.L[1]).under(x.L[0])
	case x.T == api.KTable:
		return tabled(x, again)
	}
	return wrong(api.ErrType)
}

// atomicTwo says P16.3 of an atomic pair once more.
func atomicTwo(op int, x, y api.V) answer {
	switch {
	case isFlat(x) && isFlat(y):
		return of(vec.Do(op, x, y))
	case x.T == api.KList && isSequence(y), isSequence(x) && y.T == api.KList:
		if value.Count(x) != value.Count(y) {
			return wrong(api.ErrLength)
		}
		return listed(value.Count(x), func(i int) answer { return atomicTwo(op, element(x, i), element(y, i)) })
	case x.T == api.KList:
		return listed(len(x.L), func(i int) answer { return atomicTwo(op, x.L[i], y) })
	case y.T == api.KList:
		return listed(len(y.L), func(i int) answer { return atomicTwo(op, x, y.L[i]) })
	case isPairs(x) && isFlat(y):
		return atomicTwo(op, x.L[1], y).under(x.L[0])
	case isPairs(y) && isFlat(x):
		return atomicTwo(op, x, y.L[1]).under(y.L[0])
	case x.T == api.KTable && isAtom(y):
		return tabled(x, func(column api.V) answer { return atomicTwo(op, column, y) })
	case y.T == api.KTable && isAtom(x):
		return tabled(y, func(column api.V) answer { return atomicTwo(op, x, column) })
	}
	return wrong(api.ErrType)
}

// filled says ^ once more.
func filled(x, y api.V) answer {
	if isFlat(y) {
		return of(vec.Fill(x, y))
	}
	if !isAtom(x) || isKeyed(y) || y.T > api.KDict {
		return wrong(api.ErrType)
	}
	part := func(v api.V) answer {
		if isFlat(v) && v.T != x.T && v.T != -x.T || isKeyed(v) || v.T > api.KDict {
			return right(v)
		}
		return filled(x, v)
	}
	switch y.T {
	case api.KDict:
		return part(y.L[1]).under(y.L[0])
	case api.KTable:
		return tabled(y, part)
	}
	return listed(len(y.L), func(i int) answer { return part(y.L[i]) })
}

// counts of answers that are none, so that a drawn run is no empty one.
type tally struct{ right, wrong int }

func (c *tally) add(a answer) {
	if a.e == api.OK {
		c.right++
	} else {
		c.wrong++
	}
}

func (c tally) enough(t *testing.T, least int) {
	t.Helper()
	if c.right < least || c.wrong < least {
		t.Fatalf("%d answers, %d errors: not enough of both", c.right, c.wrong)
	}
}

// TestAtomicDrawn: P16.2: the atomic verbs with one operand.
func TestAtomicDrawn(t *testing.T) {
	draw := draws(161)
	nulls := func(x api.V) (api.V, api.Errno) {
		v := vector(api.KBool)
		for i := range value.Count(x) {
			v.N = append(v.N, map[bool]int64{true: 1}[value.IsNull(x, i)])
		}
		if isAtom(x) {
			v.T = -v.T
		}
		return v, api.OK
	}
	inverse := func(x api.V) (api.V, api.Errno) { return vec.Do(api.OpDiv, one(1), x) }
	var c tally
	for range 30000 {
		x := drawn(draw, 2+draw(5))
		for name, f := range map[string]func(api.V) (api.V, api.Errno){"-": vec.Neg, "~": vec.Not, "%": inverse, "^": nulls} {
			want := atomicOne(f, x)
			wantMonad(t, name, x, want.v, want.e)
			c.add(want)
		}
	}
	c.enough(t, 10000)
}

// TestPairsDrawn: P16.3: atomic pairs.
func TestPairsDrawn(t *testing.T) {
	draw := draws(162)
	var c tally
	for range 60000 {
		x, y := drawn(draw, 1+draw(6)), drawn(draw, 1+draw(6))
		for name, op := range operations() {
			if draw(4) == 0 {
				want := atomicTwo(op, x, y)
				wantDyad(t, name, x, y, want.v, want.e)
				c.add(want)
			}
		}
		want := filled(x, y)
		wantDyad(t, "^", x, y, want.v, want.e)
		c.add(want)
	}
	c.enough(t, 10000)
}

// TestAtomic: P16.6: of two lists of one count, element by element; of a dictionary it keeps the keys.
func TestAtomic(t *testing.T) {
	draw := draws(163)
	some := 0
	for range 40000 {
		count := draw(4)
		x, y := plain(draw, 5, count), plain(draw, 5, count)
		for name := range operations() {
			v, e := verbs.Dyad(name, x, y)
			if e != api.OK {
				continue
			}
			var l []api.V
			for i := range count {
				one, e := verbs.Dyad(name, element(x, i), element(y, i))
				is(t, name, e, api.OK)
				l = append(l, one)
			}
			want := value.Of(l...)
			if count == 0 && x.T != api.KList && y.T != api.KList {
				want = value.Empty(v.T)
			}
			wants(t, v, e, want, api.OK, name, x, y)
			some++
			d := pairs(plain(draw, 3, count), x)
			by := flat(draw)
			if v, e = verbs.Dyad(name, d, by); e == api.OK {
				is(t, "keys", value.Match(v.L[0], d.L[0]), true)
			}
		}
	}
	is(t, "some", some > 10000, true)
}

// place is the first place of x among some values, or how many they are.
func place(l []api.V, x api.V) int {
	for i, v := range l {
		if value.Match(v, x) {
			return i
		}
	}
	return len(l)
}

// withElements draws two sequences, of which the second has elements of the first.
func withElements(draw func(int) int) (x, y api.V) {
	x, y = plain(draw, 1+draw(4), draw(7)), plain(draw, 1+draw(4), draw(5))
	l := elements(y)
	if own := elements(x); len(own) > 0 {
		for range draw(5) {
			l = append(l, own[draw(len(own))])
		}
	}
	if y.T != x.T {
		return x, value.Of(l...)
	}
	y = api.V{T: y.T}
	for _, v := range l {
		y.N, y.S = append(y.N, v.N...), append(y.S, v.S...)
	}
	if y.T == api.KList {
		y = value.Of(l...)
	}
	return x, y
}

// picked is the elements at these places, as vec.Index has them.
func picked(x api.V, at []int64) api.V {
	v, _ := vec.Index(x, at...)
	return v
}

// TestFindDrawn: P16.3, P16.7: ?, in, except, inter, union, element by element.
func TestFindDrawn(t *testing.T) {
	draw := draws(164)
	for range 30000 {
		x, y := withElements(draw)
		own, others := elements(x), elements(y)
		find, among := one(int64(place(own, y))), truth(0)
		if isVector(x) && isVector(y) {
			find, among = ints(), vector(api.KBool)
			for _, v := range others {
				find.N = append(find.N, int64(place(own, v)))
			}
			for _, v := range own {
				among.N = append(among.N, 0)
				if place(others, v) < len(others) {
					among.N[len(among.N)-1] = 1
				}
			}
		} else if place(others, x) < len(others) {
			among = truth(1)
		}
		wantDyad(t, "?", x, y, find, api.OK)
		wantDyad(t, "in", x, y, among, api.OK)
		var left, gone []int64
		for i, v := range own {
			if place(others, v) < len(others) {
				gone = append(gone, int64(i))
			} else {
				left = append(left, int64(i))
			}
		}
		wantDyad(t, "except", x, y, picked(x, left), api.OK)
		wantDyad(t, "inter", x, y, picked(x, gone), api.OK)
		joined, e := vec.Join(x, y)
		is(t, "Join", e, api.OK)
		var first []int64
		for i, v := range elements(joined) {
			if place(elements(joined)[:i], v) == i {
				first = append(first, int64(i))
			}
		}
		wantDyad(t, "union", x, y, picked(joined, first), api.OK)
		for _, v := range append(others, drawn(draw, 3)) {
			if isVector(v) && isVector(x) {
				continue
			}
			wantDyad(t, "in", v, x, truth(map[bool]int64{true: 1}[place(own, v) < len(own)]), api.OK)
			wantDyad(t, "?", x, v, one(int64(place(own, v))), api.OK)
		}
	}
}

// TestBinDrawn: P16.3: bin: the last place whose element is not greater.
func TestBinDrawn(t *testing.T) {
	draw := draws(165)
	for range 30000 {
		kind := 1 + draw(5)
		x, y := sequence(draw, kind, draw(8)), sequence(draw, kind, draw(5))
		want := ints()
		for _, v := range elements(y) {
			last := int64(-1)
			for i, w := range elements(x) {
				if value.Compare(w, v) <= 0 {
					last = int64(i)
				}
			}
			want.N = append(want.N, last)
			wantDyad(t, "bin", x, v, one(last), api.OK)
		}
		wantDyad(t, "bin", x, y, want, api.OK)
	}
}

// TestCutDrawn: P16.3, P16.8: the pieces, and all of them joined.
func TestCutDrawn(t *testing.T) {
	draw := draws(166)
	for range 30000 {
		y := plain(draw, 1+draw(4), draw(8))
		count := int64(value.Count(y))
		at := ints()
		for next := int64(0); next <= count && draw(6) > 0; next += int64(draw(3)) {
			at.N = append(at.N, next)
		}
		if len(at.N) > 0 && draw(3) == 0 {
			at.N = at.N[1:]
		}
		var pieces []api.V
		for i, begin := range at.N {
			end := count
			if i+1 < len(at.N) {
				end = at.N[i+1]
			}
			var places []int64
			for place := begin; place < end; place++ {
				places = append(places, place)
			}
			pieces = append(pieces, picked(y, places))
		}
		wantDyad(t, "cut", at, y, list(pieces...), api.OK)
		if len(at.N) > 0 && at.N[0] == 0 {
			joined, e := vec.Join(pieces...)
			wants(t, joined, e, y, api.OK, "Join of the pieces", at, y)
		}
		n := 1 + draw(4)
		at = ints()
		for begin := 0; begin < int(count); begin += n {
			at.N = append(at.N, int64(begin))
		}
		want, e := verbs.Dyad("cut", at, y)
		wantDyad(t, "cut", one(int64(n)), y, want, e)
	}
}

// TestFlipDrawn: P16.9: + of + of a table is the table.
func TestFlipDrawn(t *testing.T) {
	draw := draws(167)
	for range 20000 {
		x := columnsOf(draw, 2+draw(4), draw(4), []string{"a", "b", "c"}[:1+draw(3)]...)
		d := pairs(symbols(x.S...), list(x.L...))
		wantMonad(t, "+", x, d, api.OK)
		wantMonad(t, "+", d, x, api.OK)
	}
}

// indexed says P16.5 once more, of one thing by one.
func indexed(x, a api.V) answer {
	switch {
	case a.T == api.KNil:
		return right(x)
	case isSequence(x) && a.T == -api.KInt:
		return right(element(picked(x, a.N), 0))
	case isSequence(x) && a.T == api.KInt:
		return right(picked(x, a.N))
	case isSequence(x) && a.T == api.KList:
		return listed(len(a.L), func(i int) answer { return indexed(x, a.L[i]) })
	case isPairs(x) && isVector(a) && isVector(x.L[0]):
		got := value.Empty(x.L[1].T)
		if len(a.N)+len(a.S) == 0 {
			return right(got)
		}
		return listed(value.Count(a), func(i int) answer { return of(dict.Get(x, element(a, i))) })
	case isPairs(x):
		return of(dict.Get(x, a))
	case x.T == api.KTable && a.T == -api.KInt:
		if a.N[0] >= 0 && a.N[0] < int64(value.Count(x)) {
			return of(value.At(x, int(a.N[0])))
		}
		l, _ := all(len(x.L), func(i int) answer { return right(element(picked(x.L[i], []int64{-1}), 0)) })
		return right(pairs(symbols(x.S...), value.Of(l...)))
	case x.T == api.KTable && a.T == api.KInt:
		var at []int
		for _, n := range a.N {
			at = append(at, int(n))
		}
		return of(tables.Rows(x, at...))
	case x.T == api.KTable && a.T == -api.KSym:
		return of(tables.Column(x, a.S[0]))
	case x.T == api.KTable && a.T == api.KSym:
		return of(tables.Select(x, a.S...))
	case isKeyed(x) && len(x.L[0].S) == 1 && isAtom(a):
		return of(keyed.Get(x, a))
	case isKeyed(x) && len(x.L[0].S) > 1 && isSequence(a) && value.Count(a) == len(x.L[0].S):
		return of(keyed.Get(x, elements(a)...))
	}
	return wrong(api.ErrType)
}

// keysOf draws what takes x apart, often as it may.
func keysOf(draw func(int) int, x api.V) api.V {
	switch {
	case draw(4) == 0:
		return drawn(draw, 1+draw(4))
	case draw(12) == 0:
		return nothing()
	case isSequence(x) && draw(3) == 0:
		l := []api.V{ints(1, 0), sequence(draw, api.KInt, draw(3))}
		if a := keysOf(draw, ints(1)); a.T != api.KNil {
			l = append(l, a)
		}
		return value.Of(l...)
	case isPairs(x) && value.Count(x) > 0 && draw(2) == 0:
		return element(x.L[0], draw(value.Count(x)))
	case isPairs(x):
		return x.L[0]
	case isKeyed(x) && value.Count(x) > 0:
		row, _ := value.At(x.L[0], draw(value.Count(x)))
		if len(x.L[0].S) == 1 {
			return element(row.L[1], 0)
		}
		return row.L[1]
	case x.T == api.KTable && draw(2) == 0:
		return []api.V{symbol("a"), symbol("b"), symbols("b", "a"), symbols("a")}[draw(4)]
	case draw(2) == 0:
		return one(int64(draw(5) - 1))
	}
	return ints(int64(draw(3)), int64(draw(2)), int64(draw(4)))
}

// TestIndexDrawn: P16.5; 16.2: @ and .
func TestIndexDrawn(t *testing.T) {
	draw := draws(168)
	var c tally
	for range 60000 {
		x := drawn(draw, 2+draw(5))
		want, at := right(x), []api.V{}
		for range draw(4) {
			a := keysOf(draw, want.v)
			at = append(at, a)
			want = want.or(indexed(want.v, a))
			if a.T == api.KNil || want.e != api.OK {
				break
			}
		}
		wantIndex(t, want.v, want.e, x, at...)
		c.add(want)
		if len(at) == 1 {
			wantDyad(t, "@", x, at[0], want.v, want.e)
		}
		if len(at) > 0 && at[len(at)-1].T != api.KNil {
			wantDyad(t, ".", x, value.Of(at...), want.v, want.e)
		}
	}
	c.enough(t, 10000)
}

// TestRowsDrawn: 16.1, 16.2: distinct rows, rows in order the other way, rows taken and dropped.
func TestRowsDrawn(t *testing.T) {
	draw := draws(169)
	for range 15000 {
		count := draw(6)
		x := columnsOf(draw, 3, count, "a", "b")
		x.L[1] = sequence(draw, api.KBool, count)
		if draw(2) == 0 {
			x.L[0] = sequence(draw, api.KBool, count)
		}
		rows := make([]api.V, count)
		var first []int
		for i := range rows {
			rows[i], _ = value.At(x, i)
			if place(rows[:i], rows[i]) == i {
				first = append(first, i)
			}
		}
		want := of(tables.Rows(x, first...))
		wantMonad(t, "?", x, want.v, want.e)
		names := [][]string{{"a"}, {"b"}, {"b", "a"}, {}}[draw(4)]
		var order []int
		for i := range count {
			at := 0
			for at < len(order) && !above(x, i, order[at], names) {
				at++
			}
			order = append(order[:at], append([]int{i}, order[at:]...)...)
		}
		want = of(tables.Rows(x, order...))
		wantDyad(t, "xdesc", symbols(names...), x, want.v, want.e)
		n := int64(draw(15) - 7)
		for name, f := range map[string]func(int64, api.V) (api.V, api.Errno){"#": vec.Take, "_": vec.Drop} {
			at, _ := f(n, til(count))
			var places []int
			for _, i := range at.N {
				places = append(places, int(i))
			}
			want = of(tables.Rows(x, places...))
			if name == "#" && count == 0 {
				want = right(x)
			}
			wantDyad(t, name, one(n), x, want.v, want.e)
		}
	}
}

// above tells whether a row is greater than another one by these columns.
func above(t api.V, i, j int, names []string) bool {
	for _, name := range names {
		column, _ := tables.Column(t, name)
		if c := value.Compare(element(column, i), element(column, j)); c != 0 {
			return c > 0
		}
	}
	return false
}
