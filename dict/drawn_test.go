package dict_test

import (
	"slices"
	"testing"

	"quiver/api"
	"quiver/dict"
	"quiver/value"
)

// few are elements of which drawn dictionaries have their keys and values: atoms ahead, so that a draw below a small number is of them.
func few() []api.V {
	return []api.V{one(1), one(2), symbol("a"), one(null), symbol(""), dec(1), at(1), truth(1), ints(1), ints(1, 2), ints(), list(), symbols("a"), list(ints(1)), list(one(1), symbol("a")), table("a", ints(1)), pairs(ints(1), ints(2)), lambda("{x}")}
}

// sequence draws a vector, or a list, of that count.
func sequence(draw func(int) int, count int) api.V {
	v := api.V{T: draw(api.KDec + 1)}
	all := few()
	kinds := 2 + draw(len(all)-1)
	for range count {
		switch {
		case v.T == api.KList:
			v.L = append(v.L, all[draw(kinds)])
		case v.T == api.KSym:
			v.S = append(v.S, []string{"a", "", "b", "ab"}[draw(4)])
		case v.T == api.KBool:
			v.N = append(v.N, int64(draw(2)))
		default:
			v.N = append(v.N, []int64{1, 2, null, -3}[draw(4)])
		}
	}
	if v.T == api.KList {
		return value.Of(v.L...)
	}
	return v
}

// drawn draws a dictionary.
func drawn(draw func(int) int) api.V {
	count := draw(7)
	return pairs(sequence(draw, count), sequence(draw, count))
}

// asked draws keys, of which many are the dictionary's.
func asked(draw func(int) int, d api.V, count int) []api.V {
	own, all := elements(d.L[0]), few()
	var l []api.V
	for range count {
		if len(own) > 0 && draw(4) > 0 {
			l = append(l, own[draw(len(own))])
		} else {
			l = append(l, all[draw(len(all))])
		}
	}
	return l
}

// The chapter's words, one thing after the other.

func place(l []api.V, x api.V) int {
	for i, k := range l {
		if value.Match(k, x) {
			return i
		}
	}
	return len(l)
}

// laid is a sequence that has these elements now: a vector stays one, if it can.
func laid(v api.V, l []api.V) api.V {
	if v.T > api.KList && !slices.ContainsFunc(l, func(x api.V) bool { return x.T != -v.T }) {
		w := api.V{T: v.T}
		for _, x := range l {
			w.N = append(w.N, x.N...)
			w.S = append(w.S, x.S...)
		}
		return w
	}
	return value.Of(l...)
}

func oneGot(d, x api.V) api.V {
	l := elements(d.L[1])
	if i := place(elements(d.L[0]), x); i < len(l) {
		return l[i]
	}
	if d.L[1].T == api.KList {
		return list()
	}
	return value.Null(d.L[1].T)
}

func onePut(d, x, y api.V) api.V {
	keys, values := elements(d.L[0]), elements(d.L[1])
	i := place(keys, x)
	if i == len(keys) {
		return pairs(laid(d.L[0], append(keys, x)), laid(d.L[1], append(values, y)))
	}
	values[i] = y
	return pairs(d.L[0], laid(d.L[1], values))
}

func oneDropped(d, x api.V) api.V {
	keys, values := elements(d.L[0]), elements(d.L[1])
	i := place(keys, x)
	if i == len(keys) {
		return d
	}
	return pairs(laid(d.L[0], slices.Delete(keys, i, i+1)), laid(d.L[1], slices.Delete(values, i, i+1)))
}

// TestGetDrawn: P10.3: each key after the other.
func TestGetDrawn(t *testing.T) {
	draw := draws(101)
	for range 20000 {
		d := drawn(draw)
		x := asked(draw, d, draw(6))
		var got []api.V
		for _, k := range x {
			wantFind(t, d, k, place(elements(d.L[0]), k), api.OK)
			wantGet(t, oneGot(d, k), d, k)
			got = append(got, oneGot(d, k))
		}
		if len(x) != 1 {
			wantGet(t, laid(d.L[1], got), d, x...)
		}
	}
}

// TestPutDrawn: P10.4, P10.7: what was put is there, and all others get what they got.
func TestPutDrawn(t *testing.T) {
	draw := draws(102)
	for range 20000 {
		d := drawn(draw)
		x, y := asked(draw, d, 1)[0], few()[draw(len(few()))]
		if draw(2) == 0 && len(elements(d.L[1])) > 0 {
			y = elements(d.L[1])[0]
		}
		wantPut(t, d, x, y, onePut(d, x, y), api.OK)
		after, e := dict.Put(d, x, y)
		is(t, "Put", e, api.OK)
		wantGet(t, y, after, x)
		for _, k := range elements(d.L[0]) {
			if !value.Match(k, x) {
				wantGet(t, oneGot(d, k), after, k)
			}
		}
	}
}

// TestDropDrawn: P10.4: each key after the other.
func TestDropDrawn(t *testing.T) {
	draw := draws(103)
	for range 30000 {
		d := drawn(draw)
		x := asked(draw, d, draw(12))
		want := d
		for _, k := range x {
			want = oneDropped(want, k)
		}
		wantDrop(t, want, d, x...)
	}
}

// TestJoinDrawn: P10.5: each pair is put after the other.
func TestJoinDrawn(t *testing.T) {
	draw := draws(104)
	for range 20000 {
		l := []api.V{drawn(draw)}
		want := l[0]
		for range draw(4) {
			d := drawn(draw)
			l = append(l, d)
			values := elements(d.L[1])
			for i, k := range elements(d.L[0]) {
				want = onePut(want, k, values[i])
			}
		}
		wantJoin(t, want, l...)
	}
}

// TestLaterWins: P10.9: of a key the last value that the second has; if it has not the key, what the first has.
func TestLaterWins(t *testing.T) {
	draw := draws(108)
	for range 10000 {
		a, b := drawn(draw), drawn(draw)
		both, e := dict.Join(a, b)
		is(t, "Join", e, api.OK)
		for _, k := range append(elements(a.L[0]), elements(b.L[0])...) {
			want := oneGot(a, k)
			for i, x := range elements(b.L[0]) {
				if value.Match(x, k) {
					want = elements(b.L[1])[i]
				}
			}
			wantGet(t, want, both, k)
		}
	}
}

// TestUniqueDrawn: P10.5: the first of each key.
func TestUniqueDrawn(t *testing.T) {
	draw := draws(105)
	for range 20000 {
		d := drawn(draw)
		var keys, values []api.V
		for i, k := range elements(d.L[0]) {
			if place(keys, k) == len(keys) {
				keys = append(keys, k)
				values = append(values, elements(d.L[1])[i])
			}
		}
		wantUnique(t, d, pairs(laid(d.L[0], keys), laid(d.L[1], values)))
	}
}

// wantOrdered: P10.6, P10.10: all pairs are there, in order, and of equal ones the earlier first; sorted again they are the same.
func wantOrdered(t *testing.T, d api.V, by int, down bool, sort func(api.V, bool) (api.V, api.Errno)) {
	t.Helper()
	parts := [2][]api.V{elements(d.L[0]), elements(d.L[1])}
	at := elements(til(len(parts[0])))
	slices.SortStableFunc(at, func(i, j api.V) int {
		c := value.Compare(parts[by][i.N[0]], parts[by][j.N[0]])
		if down {
			return -c
		}
		return c
	})
	var keys, values []api.V
	for _, i := range at {
		keys = append(keys, parts[0][i.N[0]])
		values = append(values, parts[1][i.N[0]])
	}
	want := pairs(laid(d.L[0], keys), laid(d.L[1], values))
	got, e := sort(d, down)
	wants(t, got, e, want, api.OK, "sorted", d)
	again, e := sort(got, down)
	wants(t, again, e, want, api.OK, "sorted twice", d)
}

// TestSortsDrawn: P10.6, P10.10.
func TestSortsDrawn(t *testing.T) {
	draw := draws(106)
	for range 15000 {
		d := drawn(draw)
		for _, down := range []bool{false, true} {
			wantOrdered(t, d, 0, down, dict.SortKeys)
			wantOrdered(t, d, 1, down, dict.SortValues)
		}
	}
}

// TestGroupDrawn: P10.6, P10.8: each place once, and it leads to its key.
func TestGroupDrawn(t *testing.T) {
	draw := draws(107)
	for range 20000 {
		v := sequence(draw, draw(9))
		l := elements(v)
		var keys, values []api.V
		for i, x := range l {
			n := place(keys, x)
			if n == len(keys) {
				keys, values = append(keys, x), append(values, ints())
			}
			values[n].N = append(values[n].N, int64(i))
		}
		wantGroup(t, v, pairs(laid(v, keys), list(values...)), api.OK)
		d, e := dict.Group(v)
		is(t, "Group", e, api.OK)
		seen := map[int64]int{}
		for i, places := range d.L[1].L {
			for _, n := range places.N {
				seen[n]++
				is(t, "a place's key", value.Match(l[n], elements(d.L[0])[i]), true)
			}
		}
		is(t, "places", len(seen), len(l))
		for _, n := range seen {
			is(t, "a place once", n, 1)
		}
	}
}
