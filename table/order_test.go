package table_test

import (
	"slices"
	"strconv"
	"testing"

	"quiver/api"
	"quiver/table"
	"quiver/value"
)

// wantOrder holds Order against places, and Sort against the rows at these places.
func wantOrder(t *testing.T, v api.V, names []string, want ...int) {
	t.Helper()
	got, e := table.Order(v, names...)
	if e != api.OK || !slices.Equal(got, want) {
		t.Fatalf("Order of %s by %.300q: %.300s, error %d; not %v", told(v), names, told(ints(wide64(got)...)), e, want)
	}
	rows, e := table.Rows(v, want...)
	is(t, "Rows", e, api.OK)
	sorted, e := table.Sort(v, names...)
	wants(t, sorted, e, rows, api.OK, "Sort", v)
}

func wide64(l []int) []int64 {
	var n []int64
	for _, x := range l {
		n = append(n, int64(x))
	}
	return n
}

// TestOrder: P11.7: by one column of each kind.
func TestOrder(t *testing.T) {
	for _, c := range []struct {
		column api.V
		want   []int
	}{
		{ints(), nil},
		{list(), nil},
		{ints(5), []int{0}},
		{ints(2, 1, 2, 1), []int{1, 3, 0, 2}},
		{ints(1<<63-1, null, -1, 0, null+1, 10, 9), []int{1, 4, 2, 3, 6, 5, 0}},
		{times(3, null, 3), []int{1, 0, 2}},
		{decs(20000, -1, 0), []int{1, 2, 0}},
		{bools(1, 0, 1, 0), []int{1, 3, 0, 2}},
		{symbols("b", "", "B", "ab", "é", "a", "\xff", "b"), []int{1, 2, 5, 3, 0, 7, 4, 6}},
		{list(lambda("{x}"), small(), pairs(ints(1), ints(2)), list(), symbol("a"), dec(1), at(1), one(1), truth(1)), []int{8, 7, 6, 5, 4, 3, 2, 1, 0}},
		{list(ints(1, 2), ints(1), one(7), list(ints(1)), ints(1), one(null), list()), []int{5, 2, 1, 4, 0, 6, 3}},
	} {
		wantOrder(t, columns("a", c.column), []string{"a"}, c.want...)
		wantOrder(t, columns("z a", til(value.Count(c.column)), c.column), []string{"a"}, c.want...)
		wantOrder(t, columns("z a", til(value.Count(c.column)), c.column), []string{"a", "z", "a"}, c.want...)
	}
}

// TestOrderNames: P11.7: by several columns, by one twice, by none.
func TestOrderNames(t *testing.T) {
	v := columns("a b c", ints(2, 1, 2, 1, 2), symbols("x", "y", "", "x", "x"), list(one(5), one(4), list(), one(2), one(1)))
	wantOrder(t, v, nil, 0, 1, 2, 3, 4)
	wantOrder(t, v, []string{}, 0, 1, 2, 3, 4)
	wantOrder(t, v, []string{"a"}, 1, 3, 0, 2, 4)
	wantOrder(t, v, []string{"a", "a"}, 1, 3, 0, 2, 4)
	wantOrder(t, v, []string{"a", "b"}, 3, 1, 2, 0, 4)
	wantOrder(t, v, []string{"b", "a"}, 2, 3, 0, 4, 1)
	wantOrder(t, v, []string{"a", "b", "c"}, 3, 1, 2, 4, 0)
	wantOrder(t, v, []string{"a", "a", "b", "a", "c", "b"}, 3, 1, 2, 4, 0)
	wantOrder(t, v, []string{"c"}, 4, 3, 1, 0, 2)
	wantOrder(t, v, append(slices.Repeat([]string{"a"}, 100000), slices.Repeat([]string{"b"}, 100000)...), 3, 1, 2, 0, 4)
	most := wide(api.MaxColumns)
	for i := range most.L {
		most.L[i] = ints(5, 5)
	}
	wantOrder(t, most, most.S, 0, 1)
	most.L[api.MaxColumns-1] = ints(5, 4)
	wantOrder(t, most, most.S, 1, 0)
}

// TestOrderErrors: P11.7.
func TestOrderErrors(t *testing.T) {
	for _, name := range append(noNames(), "z", "ab") {
		for _, names := range [][]string{{name}, {"a", name}, {name, "a"}, {"a", "a", "b", name}} {
			for _, v := range []api.V{small(), columns("a b", ints(), list())} {
				l, e := table.Order(v, names...)
				is(t, "Order", e, api.ErrColumn)
				is(t, "Order", len(l), 0)
				refused(t, api.ErrColumn)(table.Sort(v, names...))
			}
		}
	}
}

// TestLong: P11.4 to P11.9: as many rows as there may be.
func TestLong(t *testing.T) {
	v := columns("a b c d", ints(), symbols(), list(), list())
	var turned, halves []int
	for i := range api.MaxCount {
		n := int64(i) * 7919 % api.MaxCount
		v.L[0].N = append(v.L[0].N, n)
		v.L[1].S = append(v.L[1].S, strconv.Itoa(i%2))
		v.L[2].L = append(v.L[2].L, ints(n))
		v.L[3].L = append(v.L[3].L, list())
		turned = append(turned, api.MaxCount-1-i)
		halves = append(halves, i/2*2)
	}
	all := make([]int, api.MaxCount)
	var even, odd []int
	for i, n := range v.L[0].N {
		all[n] = i
	}
	for _, i := range all {
		if i%2 == 0 {
			even = append(even, i)
		} else {
			odd = append(odd, i)
		}
	}
	wantOrder(t, v, []string{"a"}, all...)
	wantOrder(t, v, []string{"c"}, all...)
	wantOrder(t, v, []string{"d", "b", "a"}, append(slices.Clone(even), odd...)...)
	slices.Sort(even)
	slices.Sort(odd)
	wantOrder(t, v, []string{"b", "d"}, append(even, odd...)...) // many are equal in all
	back, e := table.Rows(v, turned...)
	is(t, "Rows", e, api.OK)
	made(t, v)(table.Rows(back, turned...))
	left, e := table.Delete(v, halves...)
	is(t, "Delete", e, api.OK)
	is(t, "rows left", value.Count(left), api.MaxCount/2)
	is(t, "rows left", slices.ContainsFunc(left.L[1].S, func(s string) bool { return s != "1" }), false)
	made(t, columns("a b c d", ints(), symbols(), list(), list()))(table.Delete(v, turned...))
	for i, name := range v.S {
		back, e = table.Update(back, name, all, v.L[i])
		is(t, "Update", e, api.OK)
		column, e := table.Column(back, name)
		is(t, "Column", e, api.OK)
		moved, e := table.Rows(columns(name, column), all...)
		wants(t, moved, e, columns(name, v.L[i]), api.OK, "what was put", moved)
	}
}
