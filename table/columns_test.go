package table_test

import (
	"slices"
	"testing"

	"quiver/api"
	"quiver/table"
)

// three is a table of three columns.
func three() api.V {
	return columns("a b c", ints(1, 2), symbols("x", "y"), list(ints(1), symbol("z")))
}

// TestSelect: P11.3.
func TestSelect(t *testing.T) {
	v := three()
	made(t, v)(table.Select(v, "a", "b", "c"))
	made(t, columns("c a", v.L[2], v.L[0]))(table.Select(v, "c", "a"))
	made(t, columns("b", v.L[1]))(table.Select(v, "b"))
	made(t, columns("c b a", v.L[2], v.L[1], v.L[0]))(table.Select(v, "c", "b", "a"))
	made(t, columns("b", list()))(table.Select(columns("a b", ints(), list()), "b"))
	most := wide(api.MaxColumns)
	turned := wide(api.MaxColumns)
	slices.Reverse(turned.S)
	slices.Reverse(turned.L)
	made(t, turned)(table.Select(most, turned.S...))
}

// TestSelectErrors: P11.3.
func TestSelectErrors(t *testing.T) {
	v := three()
	refused(t, api.ErrColumn)(table.Select(v))
	for _, name := range append(noNames(), "z", "ab") {
		refused(t, api.ErrColumn)(table.Select(v, name))
		refused(t, api.ErrColumn)(table.Select(v, "a", name))
		refused(t, api.ErrColumn)(table.Select(v, "a", "a", name))
	}
	refused(t, api.ErrSchema)(table.Select(v, "a", "a"))
	refused(t, api.ErrSchema)(table.Select(v, "b", "a", "c", "b"))
	refused(t, api.ErrSchema)(table.Select(v, slices.Repeat([]string{"a"}, 100000)...))
}

// TestDrop: P11.3.
func TestDrop(t *testing.T) {
	v := three()
	made(t, v)(table.Drop(v))
	made(t, columns("b c", v.L[1], v.L[2]))(table.Drop(v, "a"))
	made(t, columns("a c", v.L[0], v.L[2]))(table.Drop(v, "b"))
	made(t, columns("b", v.L[1]))(table.Drop(v, "c", "a"))
	made(t, columns("b", v.L[1]))(table.Drop(v, "c", "a", "c", "c", "a"))
	made(t, columns("a b", v.L[0], v.L[1]))(table.Drop(v, slices.Repeat([]string{"c"}, 100000)...))
	made(t, columns("a", ints()))(table.Drop(columns("a b", ints(), list()), "b"))
	most := wide(api.MaxColumns)
	made(t, columns(most.S[7], most.L[7]))(table.Drop(most, append(slices.Clone(most.S[:7]), most.S[8:]...)...))
}

// TestDropErrors: P11.3.
func TestDropErrors(t *testing.T) {
	v := three()
	for _, name := range append(noNames(), "z", "ab") {
		refused(t, api.ErrColumn)(table.Drop(v, name))
		refused(t, api.ErrColumn)(table.Drop(v, "a", name))
	}
	refused(t, api.ErrColumn)(table.Drop(v, "a", "b", "c"))
	refused(t, api.ErrColumn)(table.Drop(v, "c", "b", "a", "b"))
	refused(t, api.ErrColumn)(table.Drop(columns("a", ints(1)), "a"))
}

// TestRename: P11.3.
func TestRename(t *testing.T) {
	v := three()
	made(t, columns("d b c", v.L...))(table.Rename(v, "a", "d"))
	made(t, columns("a B c", v.L...))(table.Rename(v, "b", "B"))
	made(t, columns("a b "+longName(api.MaxSym), v.L...))(table.Rename(v, "c", longName(api.MaxSym)))
	made(t, v)(table.Rename(v, "b", "b"))
	made(t, columns("z", list()))(table.Rename(columns("a", list()), "a", "z"))
	most := wide(api.MaxColumns)
	other := wide(api.MaxColumns)
	other.S[63] = "z"
	made(t, other)(table.Rename(most, "c63", "z"))
}

// TestRenameErrors: P11.3: the errors, and which comes first.
func TestRenameErrors(t *testing.T) {
	v := three()
	for _, name := range append(noNames(), "z", "ab") {
		refused(t, api.ErrColumn)(table.Rename(v, name, "d"))
		refused(t, api.ErrColumn)(table.Rename(v, name, "a"))
		refused(t, api.ErrColumn)(table.Rename(v, name, name))
	}
	for _, name := range noNames() {
		refused(t, api.ErrColumn)(table.Rename(v, "a", name))
	}
	refused(t, api.ErrSchema)(table.Rename(v, "a", "b"))
	refused(t, api.ErrSchema)(table.Rename(v, "c", "a"))
}

// TestSet: P11.6: a column in its place, and a new one.
func TestSet(t *testing.T) {
	v := three()
	for _, column := range []api.V{ints(5, 6), symbols("", "a"), bools(0, 1), times(null, 1), decs(1, 2), list(ints(), list()), list(one(1), symbol("x"))} {
		made(t, columns("a b c", column, v.L[1], v.L[2]))(table.Set(v, "a", column))
		made(t, columns("a b c", v.L[0], column, v.L[2]))(table.Set(v, "b", column))
		made(t, columns("a b c", v.L[0], v.L[1], column))(table.Set(v, "c", column))
		made(t, columns("a b c d", v.L[0], v.L[1], v.L[2], column))(table.Set(v, "d", column))
		made(t, columns("a", column))(table.Set(columns("a", ints(1, 2)), "a", column))
	}
	for _, x := range atoms() {
		many := vector(-x.T, slices.Repeat(x.N, 2)...)
		many.S = slices.Repeat(x.S, 2)
		made(t, columns("a b c", v.L[0], many, v.L[2]))(table.Set(v, "b", x))
		made(t, columns("a b c d", v.L[0], v.L[1], v.L[2], many))(table.Set(v, "d", x))
		none := columns("a b", ints(), list())
		made(t, columns("a b", ints(), api.V{T: -x.T}))(table.Set(none, "b", x))
		made(t, columns("a b c", ints(), list(), api.V{T: -x.T}))(table.Set(none, "c", x))
	}
	made(t, columns("a b", ints(), list()))(table.Set(columns("a", ints()), "b", list()))
	short := wide(api.MaxColumns - 1)
	most := wide(api.MaxColumns)
	made(t, most)(table.Set(short, "c63", one(63)))
	most.L[7] = symbols("s")
	made(t, most)(table.Set(wide(api.MaxColumns), "c7", symbol("s")))
	made(t, columns("a b", ints(1), deep(api.MaxDepth-1)))(table.Set(columns("a", ints(1)), "b", deep(api.MaxDepth-1)))
}

// TestSetErrors: P11.6: the errors, and which comes first.
func TestSetErrors(t *testing.T) {
	v := three()
	most := wide(api.MaxColumns)
	for _, name := range noNames() {
		for _, x := range []api.V{one(1), ints(1), ints(1, 2), small(), nothing(), deep(api.MaxDepth)} {
			refused(t, api.ErrColumn)(table.Set(v, name, x))
			refused(t, api.ErrColumn)(table.Set(most, name, x))
		}
	}
	for _, x := range wholes() {
		refused(t, api.ErrType)(table.Set(v, "a", x))
		refused(t, api.ErrType)(table.Set(v, "d", x))
		refused(t, api.ErrType)(table.Set(most, "d", x))
		refused(t, api.ErrType)(table.Set(columns("a", ints(1)), "a", x)) // of the count 1, as some of these
	}
	for _, x := range []api.V{ints(), ints(1), ints(1, 2, 3), list(), list(ints(1)), symbols("a"), deep(api.MaxDepth)} {
		refused(t, api.ErrLength)(table.Set(v, "a", x))
		refused(t, api.ErrLength)(table.Set(v, "d", x))
		refused(t, api.ErrLength)(table.Set(columns("a", ints(1, 2)), "a", x))
	}
	refused(t, api.ErrLength)(table.Set(most, "d", ints(1, 2)))
	refused(t, api.ErrSchema)(table.Set(most, "d", one(1)))
	refused(t, api.ErrSchema)(table.Set(most, "d", ints(1)))
	refused(t, api.ErrSchema)(table.Set(most, "d", deep(api.MaxDepth)))
	refused(t, api.ErrMany)(table.Set(most, "c1", deep(api.MaxDepth)))
	refused(t, api.ErrMany)(table.Set(columns("a", ints(1)), "b", deep(api.MaxDepth)))
}
