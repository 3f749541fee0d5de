package table_test

import (
	"fmt"
	"slices"
	"strconv"
	"strings"
	"testing"

	"quiver/api"
	"quiver/table"
	"quiver/value"
)

const null = api.Null

// draws is a row of numbers that looks random, and is the same each time.
func draws(seed uint64) func(below int) int {
	return func(below int) int {
		seed = seed*6364136223846793005 + 1442695040888963407
		return int(seed>>33) % below
	}
}

func is[K comparable](t *testing.T, what string, got, want K) {
	t.Helper()
	if got != want {
		t.Fatalf("%.300s: %.300s, not %.300s", what, fmt.Sprint(got), fmt.Sprint(want))
	}
}

// The kinds of values, written out without the packages' help.
func vector(t int, n ...int64) api.V { return api.V{T: t, N: n} }
func symbols(s ...string) api.V      { return api.V{T: api.KSym, S: s} }
func atom(t int, n int64) api.V      { return api.V{T: -t, N: []int64{n}} }
func symbol(s string) api.V          { return api.V{T: -api.KSym, S: []string{s}} }
func list(l ...api.V) api.V          { return api.V{T: api.KList, L: l} }
func pairs(k, v api.V) api.V         { return api.V{T: api.KDict, L: []api.V{k, v}} }
func lambda(s string) api.V          { return api.V{T: api.KLambda, S: []string{s}} }
func nothing() api.V                 { return api.V{T: api.KNil} }
func bools(n ...int64) api.V         { return vector(api.KBool, n...) }
func ints(n ...int64) api.V          { return vector(api.KInt, n...) }
func times(n ...int64) api.V         { return vector(api.KTime, n...) }
func decs(n ...int64) api.V          { return vector(api.KDec, n...) }
func truth(n int64) api.V            { return atom(api.KBool, n) }
func one(n int64) api.V              { return atom(api.KInt, n) }
func at(n int64) api.V               { return atom(api.KTime, n) }
func dec(n int64) api.V              { return atom(api.KDec, n) }

// columns is a table; its names stand in one text.
func columns(names string, cols ...api.V) api.V {
	return api.V{T: api.KTable, S: strings.Fields(names), L: cols}
}

// row is a dictionary; its names stand in one text.
func row(names string, values api.V) api.V {
	return pairs(symbols(strings.Fields(names)...), values)
}

// small is the table of the chapter's examples.
func small() api.V { return columns("a b", ints(1, 2, 3), symbols("x", "y", "x")) }

// deep is a list of that depth, with one element.
func deep(depth int) api.V {
	v := ints(1)
	for range depth - 1 {
		v = list(v)
	}
	return v
}

// til is the ints ahead of n.
func til(n int) api.V {
	l := ints()
	for i := range n {
		l.N = append(l.N, int64(i))
	}
	return l
}

// wide is a table of so many columns, of the count 1.
func wide(count int) api.V {
	t := columns("")
	for i := range count {
		t.S = append(t.S, "c"+strconv.Itoa(i))
		t.L = append(t.L, ints(int64(i)))
	}
	return t
}

// longName is a name of that many bytes.
func longName(bytes int) string { return strings.Repeat("n", bytes) }

// noNames are texts that no column may have as its name.
func noNames() []string {
	return []string{"", "a\x00", "\x00", longName(api.MaxSym + 1), longName(1000)}
}

// atoms are some of each type.
func atoms() []api.V {
	return []api.V{one(1), one(null), truth(0), at(1), dec(1), symbol("a"), symbol("")}
}

// wholes are values that are no atoms, no vectors and no lists.
func wholes() []api.V {
	t := small()
	return []api.V{t, columns("a", ints()), pairs(ints(1), ints(2)), pairs(list(), ints()), pairs(t, t), lambda("{x}"), nothing()}
}

// noTables are values that are no tables.
func noTables() []api.V {
	l := []api.V{ints(1, 2), ints(), symbols("a"), symbols(), bools(), times(1), decs(), list(), list(small(), small()), row("a b", list(one(1), symbol("x")))}
	for _, v := range append(wholes(), atoms()...) {
		if v.T != api.KTable {
			l = append(l, v)
		}
	}
	return l
}

// elements are those of a sequence, as values.
func elements(v api.V) []api.V {
	l := append([]api.V{}, v.L...)
	for _, n := range v.N {
		l = append(l, atom(v.T, n))
	}
	for _, s := range v.S {
		l = append(l, symbol(s))
	}
	return l
}

// told is values in few words.
func told(l ...api.V) string { return fmt.Sprintf("%.300s", fmt.Sprint(l)) }

// wants holds an answer against the value that it ought to be, or the error.
func wants(t *testing.T, got api.V, e api.Errno, want api.V, wantE api.Errno, what string, handed ...api.V) {
	t.Helper()
	if e != wantE || !value.Match(got, want) || value.Check(got) != api.OK {
		t.Fatalf("%s of %s: %s, error %d; not %s, error %d", what, told(handed...), told(got), e, told(want), wantE)
	}
}

// made holds an answer against the table that it ought to be.
func made(t *testing.T, want api.V) func(got api.V, e api.Errno) {
	return func(got api.V, e api.Errno) {
		t.Helper()
		wants(t, got, e, want, api.OK, "answer")
	}
}

// refused holds an answer against the error that it ought to be.
func refused(t *testing.T, want api.Errno) func(got api.V, e api.Errno) {
	return func(got api.V, e api.Errno) {
		t.Helper()
		wants(t, got, e, api.V{}, want, "answer")
	}
}

func wantSchema(t *testing.T, v api.V, want ...api.Field) {
	t.Helper()
	got, e := table.Schema(v)
	if e != api.OK || !slices.Equal(got, want) {
		t.Fatalf("Schema of %s: %v, error %d; not %v", told(v), got, e, want)
	}
}

// TestExamples: the chapter's examples.
func TestExamples(t *testing.T) {
	v := small()
	made(t, columns("a b", ints(1, 3, 2), symbols("x", "x", "y")))(table.Sort(v, "b"))
	made(t, columns("a b", ints(1, 3), symbols("x", "x")))(table.Delete(v, 1))
	made(t, columns("a b", ints(1, 2, 3, 4), symbols("x", "y", "x", "z")))(table.Insert(v, row("b a", list(symbol("z"), one(4)))))
	refused(t, api.ErrType)(table.Insert(v, row("a b", symbols("q", "z"))))
	refused(t, api.ErrSchema)(table.Insert(v, row("a", ints(4))))
	made(t, columns("a b", ints(9, 2, 9), symbols("x", "y", "x")))(table.Update(v, "a", []int{0, 2}, one(9)))
	made(t, columns("a b c", ints(1, 2, 3), symbols("x", "y", "x"), ints(0, 0, 0)))(table.Set(v, "c", one(0)))
	refused(t, api.ErrColumn)(table.Column(v, "z"))
}

// TestMake: P11.1: what is made, with its columns: P11.2.
func TestMake(t *testing.T) {
	mixed := list(one(1), symbol("a"))
	for _, want := range []api.V{
		small(),
		columns("a", ints()),
		columns("a", list()),
		columns("a b c d e f", bools(), ints(), symbols(), times(), decs(), list()),
		columns("b a", symbols("", "x"), bools(0, 1)),
		columns("x y", mixed, list(small(), pairs(ints(1), ints(2)))),
		columns("x", list(list(), lambda("{x}"))),
		columns("é \xff A.b", times(null), decs(1), list(ints(1, 2))),
		columns(longName(api.MaxSym), ints(1)),
		columns("a", til(api.MaxCount)),
		columns("a", deep(api.MaxDepth-1)),
		wide(1),
		wide(api.MaxColumns),
	} {
		made(t, want)(table.Make(want.S, want.L...))
		var fields []api.Field
		for i, name := range want.S {
			fields = append(fields, api.Field{Name: name, Type: want.L[i].T})
			made(t, want.L[i])(table.Column(want, name))
		}
		wantSchema(t, want, fields...)
	}
}

// TestMakeErrors: P11.1: the errors, and which comes first.
func TestMakeErrors(t *testing.T) {
	refused(t, api.ErrColumn)(table.Make(nil))
	refused(t, api.ErrColumn)(table.Make([]string{}, []api.V{}...))
	refused(t, api.ErrColumn)(table.Make(nil, ints(1)))
	refused(t, api.ErrColumn)(table.Make([]string{"a"}))
	refused(t, api.ErrColumn)(table.Make([]string{"a", "b"}, ints(1)))
	refused(t, api.ErrColumn)(table.Make([]string{"a", "a"}, ints(1)))
	refused(t, api.ErrColumn)(table.Make([]string{"a"}, one(1), ints(1, 2)))
	for _, name := range noNames() {
		refused(t, api.ErrColumn)(table.Make([]string{name}, ints(1)))
		refused(t, api.ErrColumn)(table.Make([]string{"a", "a", name}, one(1), ints(1), ints(1, 2)))
		most := wide(api.MaxColumns + 1)
		most.S[api.MaxColumns] = name
		refused(t, api.ErrColumn)(table.Make(most.S, most.L...))
	}
	refused(t, api.ErrSchema)(table.Make([]string{"a", "a"}, ints(1), ints(1)))
	refused(t, api.ErrSchema)(table.Make([]string{"b", "a", "c", "b"}, one(1), ints(1), ints(1, 2), nothing()))
	for _, more := range []int{1, 2, 1000} {
		most := wide(api.MaxColumns + more)
		refused(t, api.ErrSchema)(table.Make(most.S, most.L...))
		most.L[0] = one(1)
		refused(t, api.ErrSchema)(table.Make(most.S, most.L...))
	}
	for _, x := range append(wholes(), atoms()...) {
		refused(t, api.ErrType)(table.Make([]string{"a"}, x))
		refused(t, api.ErrType)(table.Make([]string{"a", "b", "c"}, ints(1), ints(1, 2), x))
		refused(t, api.ErrType)(table.Make([]string{"a", "b"}, x, deep(api.MaxDepth)))
	}
	refused(t, api.ErrLength)(table.Make([]string{"a", "b"}, ints(1), ints()))
	refused(t, api.ErrLength)(table.Make([]string{"a", "b", "c"}, ints(1), symbols("a"), list(ints(1), ints(2))))
	refused(t, api.ErrLength)(table.Make([]string{"a", "b"}, deep(api.MaxDepth), ints(1, 2)))
	refused(t, api.ErrMany)(table.Make([]string{"a"}, deep(api.MaxDepth)))
	refused(t, api.ErrMany)(table.Make([]string{"a", "b"}, ints(1), deep(api.MaxDepth)))
}

// TestEmpty: P11.1.
func TestEmpty(t *testing.T) {
	var all []api.Field
	for k := api.KList; k <= api.KDec; k++ {
		field := api.Field{Name: "f" + strconv.Itoa(k), Type: k}
		all = append(all, field)
		made(t, columns(field.Name, api.V{T: k}))(table.Empty(field))
		v, e := table.Empty(all...)
		is(t, "Empty", e, api.OK)
		is(t, "rows", value.Count(v), 0)
		wantSchema(t, v, all...)
	}
	made(t, columns("b a", symbols(), list()))(table.Empty(api.Field{Name: "b", Type: api.KSym}, api.Field{Name: "a"}))
	var most []api.Field
	for range api.MaxColumns {
		most = append(most, api.Field{Name: "c" + strconv.Itoa(len(most)), Type: api.KTime})
	}
	v, e := table.Empty(most...)
	wants(t, v, e, api.V{T: api.KTable, S: wide(api.MaxColumns).S, L: slices.Repeat([]api.V{times()}, api.MaxColumns)}, api.OK, "Empty")
	refused(t, api.ErrSchema)(table.Empty(append(most, api.Field{Name: "a", Type: 77})...))
	refused(t, api.ErrColumn)(table.Empty(append(most, api.Field{Name: "", Type: 77})...))
}

// TestEmptyErrors: P11.1: the errors, and which comes first.
func TestEmptyErrors(t *testing.T) {
	refused(t, api.ErrColumn)(table.Empty())
	refused(t, api.ErrColumn)(table.Empty([]api.Field{}...))
	good := api.Field{Name: "a", Type: api.KInt}
	for _, name := range noNames() {
		refused(t, api.ErrColumn)(table.Empty(api.Field{Name: name, Type: api.KInt}))
		refused(t, api.ErrColumn)(table.Empty(good, good, api.Field{Name: name, Type: -1}))
	}
	refused(t, api.ErrSchema)(table.Empty(good, good))
	refused(t, api.ErrSchema)(table.Empty(good, api.Field{Name: "b", Type: 77}, api.Field{Name: "a", Type: 77}))
	for _, k := range []int{-1, -2, -3, -4, -5, 6, -6, 97, api.KTable, api.KDict, api.KLambda, api.KNil, null, 1<<63 - 1} {
		refused(t, api.ErrType)(table.Empty(api.Field{Name: "a", Type: k}))
		refused(t, api.ErrType)(table.Empty(good, api.Field{Name: "b", Type: k}))
	}
}

// TestColumnErrors: P11.2.
func TestColumnErrors(t *testing.T) {
	for _, name := range append(noNames(), "z", "A", "a ", "ab", "aa") {
		refused(t, api.ErrColumn)(table.Column(small(), name))
	}
}

// TestNoTable: of anything but a table ErrType, whatever else is wrong.
func TestNoTable(t *testing.T) {
	for _, v := range noTables() {
		for name, call := range calls() {
			if name == "Make" || name == "Empty" {
				continue
			}
			for _, x := range []api.V{one(1), small(), nothing(), v} {
				for _, names := range [][]string{{"a", "b"}, {"", ""}, {"a", "a"}} {
					for _, places := range [][]int{{0}, {-1}, {1 << 40}, make([]int, api.MaxCount+1)} {
						got, e := call(handed{v, x, names, places})
						wants(t, got, e, api.V{}, api.ErrType, name, v, x)
					}
				}
			}
		}
		refused(t, api.ErrType)(table.Select(v))
		refused(t, api.ErrType)(table.Drop(v))
		refused(t, api.ErrType)(table.Rows(v))
		refused(t, api.ErrType)(table.Delete(v))
		refused(t, api.ErrType)(table.Sort(v))
		l, e := table.Order(v)
		is(t, "Order", e, api.ErrType)
		is(t, "Order", len(l), 0)
		fields, e := table.Schema(v)
		is(t, "Schema", e, api.ErrType)
		is(t, "Schema", len(fields), 0)
	}
}
