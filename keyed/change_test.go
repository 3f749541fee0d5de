package keyed_test

import (
	"testing"

	"quiver/api"
	"quiver/keyed"
	"quiver/value"
)

// TestInsert: P12.3: rows of all kinds.
func TestInsert(t *testing.T) {
	k := small()
	want := pairs(columns("a", ints(1, 2, 7)), columns("b", symbols("x", "y", "q")))
	made(t, want)(keyed.Insert(k, columns("a b", ints(7), symbols("q"))))
	made(t, want)(keyed.Insert(k, columns("b a", symbols("q"), ints(7))))
	made(t, want)(keyed.Insert(k, row("b a", list(symbol("q"), one(7)))))
	made(t, want)(keyed.Insert(k, pairs(columns("a", ints(7)), columns("b", symbols("q")))))
	made(t, want)(keyed.Insert(k, pairs(columns("b", symbols("q")), columns("a", ints(7)))))
	made(t, k)(keyed.Insert(k, columns("a b", ints(), symbols())))
	made(t, k)(keyed.Insert(k, pairs(columns("a", ints()), columns("b", symbols()))))
	made(t, k)(keyed.Insert(pairs(columns("a", ints()), columns("b", symbols())), k))
	two := pairs(columns("c a", ints(1, 1), ints(1, 2)), columns("b", ints(5, 5)))
	made(t, pairs(columns("c a", ints(1, 1, 2, 2), ints(1, 2, 2, 1)), columns("b", ints(5, 5, 5, 6))))(keyed.Insert(two, columns("a b c", ints(2, 1), ints(5, 6), ints(2, 2))))
}

// TestInsertLists: P12.3: columns that are lists take anything; those without elements become what is put in.
func TestInsertLists(t *testing.T) {
	none := pairs(columns("a", list()), columns("b c", list(), ints()))
	made(t, pairs(columns("a", ints(1, 2)), columns("b c", symbols("x", "y"), ints(3, 4))))(keyed.Insert(none, columns("c a b", ints(3, 4), ints(1, 2), symbols("x", "y"))))
	made(t, pairs(columns("a", list(ints(1))), columns("b c", symbols("x"), ints(3))))(keyed.Insert(none, row("a b c", list(ints(1), symbol("x"), one(3)))))
	made(t, pairs(columns("a", times()), columns("b c", symbols(), ints())))(keyed.Insert(none, columns("a b c", times(), symbols(), ints())))
	mixed := pairs(columns("a", list(one(1), symbol("a"))), columns("b", list(ints(1), list())))
	made(t, pairs(columns("a", list(one(1), symbol("a"), dec(1), dec(2))), columns("b", list(ints(1), list(), one(5), one(6)))))(keyed.Insert(mixed, columns("a b", decs(1, 2), ints(5, 6))))
	made(t, pairs(columns("a", list(one(1), symbol("a"), small())), columns("b", list(ints(1), list(), lambda("{x}")))))(keyed.Insert(mixed, row("a b", list(small(), lambda("{x}")))))
}

// TestInsertKeys: P12.3: a key that is there, or that comes twice.
func TestInsertKeys(t *testing.T) {
	k := small()
	refused(t, api.ErrKey)(keyed.Insert(k, row("a b", list(one(1), symbol("q")))))
	refused(t, api.ErrKey)(keyed.Insert(k, row("a b", list(one(2), symbol("y")))))
	refused(t, api.ErrKey)(keyed.Insert(k, columns("a b", ints(3, 4, 2), symbols("x", "y", "z"))))
	refused(t, api.ErrKey)(keyed.Insert(k, columns("a b", ints(3, 4, 3), symbols("x", "y", "z"))))
	refused(t, api.ErrKey)(keyed.Insert(k, k))
	refused(t, api.ErrKey)(keyed.Insert(k, pairs(columns("b", symbols("z", "w")), columns("a", ints(5, 5)))))
	alike := pairs(columns("a", ints(1, 1)), columns("b", symbols("x", "y")))
	made(t, pairs(columns("a", ints(1, 1, 2)), columns("b", symbols("x", "y", "z"))))(keyed.Insert(alike, row("a b", list(one(2), symbol("z")))))
	made(t, alike)(keyed.Insert(alike, columns("a b", ints(), symbols())))
	refused(t, api.ErrKey)(keyed.Insert(alike, row("a b", list(one(1), symbol("z")))))
	two := pairs(columns("a b", ints(1, 2), ints(1, 2)), columns("c", ints(0, 0)))
	made(t, pairs(columns("a b", ints(1, 2, 1, 2), ints(1, 2, 2, 1)), columns("c", ints(0, 0, 0, 0))))(keyed.Insert(two, columns("a b c", ints(1, 2), ints(2, 1), ints(0, 0))))
	refused(t, api.ErrKey)(keyed.Insert(two, columns("a b c", ints(1, 2), ints(2, 2), ints(0, 0))))
	none := pairs(columns("a", symbols("")), columns("b", ints(0)))
	refused(t, api.ErrKey)(keyed.Insert(none, row("a b", list(symbol(""), one(1)))))
	lists := pairs(columns("a", list(ints(1), one(1))), columns("b", ints(0, 0)))
	made(t, pairs(columns("a", list(ints(1), one(1), one(2))), columns("b", ints(0, 0, 0))))(keyed.Insert(lists, columns("a b", ints(2), ints(0))))
	refused(t, api.ErrKey)(keyed.Insert(lists, columns("a b", ints(1), ints(0))))
}

// TestPutErrors: P12.3, P12.4: the errors that Insert, Upsert and Join have together.
func TestPutErrors(t *testing.T) {
	refuse := func(k, rows api.V, want api.Errno) {
		t.Helper()
		refused(t, want)(keyed.Insert(k, rows))
		refused(t, want)(keyed.Upsert(k, rows))
		refused(t, want)(keyed.Join(k, rows))
		refused(t, want)(keyed.Join(k, columns("a b", ints(), symbols()), rows, one(1)))
	}
	k := small()
	for _, rows := range noKeyed() {
		if rows.T != api.KTable && (rows.T != api.KDict || rows.L[0].T != api.KSym) {
			refuse(k, rows, api.ErrType)
		}
	}
	for _, rows := range noSchemas() {
		refuse(k, rows, api.ErrSchema)
	}
	refuse(k, pairs(columns("a", ints(7)), columns("a", symbols("x"))), api.ErrSchema)
	refuse(k, pairs(columns("a b", ints(7), symbols("x")), columns("b", symbols("x"))), api.ErrSchema)
	refuse(k, row("a b a", list(one(7), symbol("x"), one(8))), api.ErrType)
	for _, rows := range []api.V{
		row("a", ints(1)), row("a b c", list(one(7), symbol("x"), one(8))), row("a c", ints(1, 1)), columns("a", ints(1)), columns("a b c", ints(7), symbols("x"), ints(8)),
		columns("A b", ints(1), symbols("x")), k.L[0], k.L[1], pairs(columns("a", ints(1)), columns("c", symbols("x"))), pairs(columns("a b", ints(1), symbols("x")), columns("c", ints(1))),
	} {
		refuse(k, rows, api.ErrSchema)
	}
	for _, rows := range []api.V{
		row("a b", list(dec(1), symbol("x"))), row("a b", ints(1, 2)), row("b a", symbols("x", "y")), row("a b", list(ints(1), symbol("x"))), row("a b", list(one(1), symbols("x"))),
		columns("a b", decs(1), symbols("x")), columns("a b", ints(1), list(list())), columns("a b", list(), list()), columns("a b", ints(), list()), pairs(columns("b", ints(1)), columns("a", symbols("x"))),
	} {
		refuse(k, rows, api.ErrType)
	}
}

// TestPutMany: P12.3, P12.4: more rows than there may be, as if all were appended, ahead of ErrKey; and what would be too deep, behind all others.
func TestPutMany(t *testing.T) {
	n := til(api.MaxCount)
	full := pairs(columns("a", n), columns("b", n))
	for _, rows := range []api.V{row("a b", ints(5, 7)), row("a b", ints(-5, 7)), pairs(columns("a", ints(5)), columns("b", ints(7))), full} {
		refused(t, api.ErrMany)(keyed.Insert(full, rows))
		refused(t, api.ErrMany)(keyed.Upsert(full, rows))
		refused(t, api.ErrMany)(keyed.Join(full, columns("a b", ints(), ints()), rows, one(1)))
	}
	made(t, full)(keyed.Upsert(full, columns("a b", ints(), ints())))
	made(t, full)(keyed.Insert(pairs(columns("a", ints()), columns("b", ints())), full))
	most := n.N[:api.MaxCount-1]
	made(t, full)(keyed.Insert(pairs(columns("a", ints(most...)), columns("b", ints(most...))), row("b a", ints(api.MaxCount-1, api.MaxCount-1))))

	k := pairs(columns("a", list(one(1), symbol("a"))), columns("b", list(one(1), symbol("a"))))
	just, tooDeep := deep(api.MaxDepth-3), deep(api.MaxDepth-2)
	for _, x := range []api.V{row("a b", list(one(2), tooDeep)), row("a b", list(tooDeep, one(2))), columns("a b", ints(2), list(tooDeep))} {
		refused(t, api.ErrMany)(keyed.Insert(k, x))
		refused(t, api.ErrMany)(keyed.Upsert(k, x))
		refused(t, api.ErrMany)(keyed.Join(k, x, one(1)))
	}
	met := row("a b", list(one(1), tooDeep))
	refused(t, api.ErrKey)(keyed.Insert(k, met))
	refused(t, api.ErrMany)(keyed.Upsert(k, met))
	refused(t, api.ErrMany)(keyed.Join(k, met, row("a b", ints(1, 5))))
	made(t, pairs(columns("a", list(one(1), symbol("a"), one(2))), columns("b", list(one(1), symbol("a"), just))))(keyed.Insert(k, row("a b", list(one(2), just))))
	made(t, pairs(k.L[0], columns("b", list(just, symbol("a")))))(keyed.Upsert(k, row("a b", list(one(1), just))))
	made(t, pairs(k.L[0], columns("b", list(one(5), symbol("a")))))(keyed.Upsert(k, columns("a b", ints(1, 1), list(tooDeep, one(5)))))
}

// TestUpsert: P12.4: keys that are there, and others, in order.
func TestUpsert(t *testing.T) {
	k := small()
	want := pairs(columns("a", ints(1, 2, 3)), columns("b", symbols("x", "z", "w")))
	made(t, want)(keyed.Upsert(k, columns("a b", ints(3, 2), symbols("w", "z"))))
	made(t, want)(keyed.Upsert(k, pairs(columns("b", symbols("z", "w")), columns("a", ints(2, 3)))))
	made(t, want)(keyed.Upsert(k, pairs(columns("a", ints(2, 3)), columns("b", symbols("z", "w")))))
	made(t, pairs(columns("a", ints(1, 2)), columns("b", symbols("q", "y"))))(keyed.Upsert(k, row("b a", list(symbol("q"), one(1)))))
	made(t, pairs(columns("a", ints(1, 2, 0)), columns("b", symbols("x", "y", "q"))))(keyed.Upsert(k, row("a b", list(one(0), symbol("q")))))
	made(t, pairs(columns("a", ints(1, 2, 9, 8)), columns("b", symbols("4", "y", "5", "3"))))(keyed.Upsert(k, columns("a b", ints(9, 1, 8, 1, 9), symbols("1", "2", "3", "4", "5"))))
	made(t, k)(keyed.Upsert(k, k))
	made(t, k)(keyed.Upsert(k, columns("b a", symbols(), ints())))
	alike := pairs(columns("a", ints(1, 2, 1)), columns("b c", symbols("x", "y", "z"), ints(4, 5, 6)))
	made(t, pairs(alike.L[0], columns("b c", symbols("q", "y", "z"), ints(7, 5, 6))))(keyed.Upsert(alike, row("a b c", list(one(1), symbol("q"), one(7)))))
	made(t, pairs(columns("a", ints(1, 2, 1, 3)), columns("b c", symbols("x", "q", "z", "r"), ints(4, 7, 6, 8))))(keyed.Upsert(alike, columns("c b a", ints(7, 8), symbols("q", "r"), ints(2, 3))))
	two := pairs(columns("c a", ints(1, 1), ints(1, 2)), columns("b", ints(5, 6)))
	made(t, pairs(columns("c a", ints(1, 1, 2), ints(1, 2, 1)), columns("b", ints(5, 8, 7))))(keyed.Upsert(two, columns("a b c", ints(1, 2), ints(7, 8), ints(2, 1))))
	nulls := pairs(columns("a", ints(null)), columns("b", ints(0)))
	made(t, pairs(columns("a", ints(null)), columns("b", ints(null))))(keyed.Upsert(nulls, row("a b", ints(null, null))))
}

// TestUpsertLists: P12.4: a vector stays one, of a list value.Of of its elements; without elements it is table.Insert's.
func TestUpsertLists(t *testing.T) {
	k := pairs(columns("a", ints(1, 2)), columns("b", list(one(1), symbol("a"))))
	made(t, pairs(k.L[0], columns("b", ints(1, 5))))(keyed.Upsert(k, row("a b", ints(2, 5))))
	made(t, pairs(k.L[0], columns("b", symbols("b", "a"))))(keyed.Upsert(k, columns("a b", ints(1), symbols("b"))))
	made(t, pairs(k.L[0], columns("b", list(ints(7), symbol("a")))))(keyed.Upsert(k, row("a b", list(one(1), ints(7)))))
	made(t, pairs(k.L[0], columns("b", decs(4, 3))))(keyed.Upsert(k, columns("a b", ints(2, 1), decs(3, 4))))
	made(t, pairs(k.L[0], columns("b", list(dec(4), at(3)))))(keyed.Upsert(k, columns("a b", ints(2, 1, 2), list(one(9), dec(4), at(3)))))
	made(t, pairs(columns("a", ints(1, 2, 3)), columns("b", ints(1, 5, 6))))(keyed.Upsert(k, columns("a b", ints(2, 3), ints(5, 6))))
	none := pairs(columns("a", list()), columns("b", list()))
	made(t, pairs(columns("a", ints(1)), columns("b", symbols("z"))))(keyed.Upsert(none, columns("a b", ints(1, 1), symbols("y", "z"))))
	made(t, pairs(columns("a", ints(1)), columns("b", ints(2))))(keyed.Upsert(none, columns("a b", ints(1, 1), list(symbol("y"), one(2)))))
	made(t, pairs(columns("a", ints(1)), columns("b", list(list()))))(keyed.Upsert(none, row("a b", list(one(1), list()))))
	made(t, pairs(columns("a", symbols()), columns("b", times())))(keyed.Upsert(none, columns("b a", times(), symbols())))
	made(t, pairs(columns("a", symbols()), columns("b", list())))(keyed.Upsert(none, columns("b a", list(), symbols())))
	lists := pairs(columns("a", list(ints(1), one(1))), columns("b", ints(1, 2)))
	made(t, pairs(lists.L[0], columns("b", ints(1, 7))))(keyed.Upsert(lists, columns("a b", ints(1), ints(7))))
	made(t, pairs(columns("a", list(ints(1), one(1), dec(1))), columns("b", ints(1, 2, 7))))(keyed.Upsert(lists, columns("a b", decs(1), ints(7))))
}

// TestJoin: P12.4: one after the other, and the first error.
func TestJoin(t *testing.T) {
	k := small()
	made(t, k)(keyed.Join(k))
	made(t, k)(keyed.Join(k, k, k))
	rows := columns("b a", symbols("z", "w"), ints(2, 3))
	made(t, pairs(columns("a", ints(1, 2, 3)), columns("b", symbols("x", "y", "w"))))(keyed.Join(k, rows, k))
	made(t, pairs(columns("a", ints(1, 2, 3)), columns("b", symbols("x", "z", "w"))))(keyed.Join(k, k, rows))
	made(t, pairs(columns("a", ints(1, 2, 3)), columns("b", symbols("x", "v", "u"))))(keyed.Join(k, rows, row("a b", list(one(2), symbol("v"))), pairs(columns("b", symbols("u")), columns("a", ints(3)))))
	refused(t, api.ErrType)(keyed.Join(k, rows, one(1), k.L[0]))
	refused(t, api.ErrSchema)(keyed.Join(k, rows, k.L[0], one(1)))
	refused(t, api.ErrType)(keyed.Join(k, nothing()))
	mixed := pairs(columns("a", ints(1, 2)), columns("b", list(one(1), symbol("a"))))
	made(t, pairs(columns("a", ints(1, 2, 3)), columns("b", list(one(1), one(5), symbol("b")))))(keyed.Join(mixed, row("a b", list(one(3), symbol("b"))), row("a b", ints(2, 5))))
	refused(t, api.ErrType)(keyed.Join(mixed, row("a b", ints(2, 5)), row("a b", list(one(3), symbol("b"))))) // b is ints by then
	full := til(api.MaxCount - 1)
	many := pairs(columns("a", full), columns("b", full))
	made(t, many)(keyed.Join(many, row("a b", ints(5, 5)), row("a b", ints(6, 6))))
	refused(t, api.ErrMany)(keyed.Join(many, row("a b", ints(-1, 5)), row("a b", ints(6, 6))))
}

// TestDelete: P12.4: without the first row that has the key.
func TestDelete(t *testing.T) {
	k := small()
	made(t, pairs(columns("a", ints(2)), columns("b", symbols("y"))))(keyed.Delete(k, one(1)))
	made(t, pairs(columns("a", ints(1)), columns("b", symbols("x"))))(keyed.Delete(k, one(2)))
	for _, x := range []api.V{one(3), dec(1), ints(1), symbol("x"), list(), nothing()} {
		made(t, k)(keyed.Delete(k, x))
	}
	alike := pairs(columns("a", ints(5, 3, 5)), columns("b c", ints(1, 2, 3), symbols("x", "y", "z")))
	made(t, pairs(columns("a", ints(3, 5)), columns("b c", ints(2, 3), symbols("y", "z"))))(keyed.Delete(alike, one(5)))
	two := pairs(columns("a b", ints(1, 1, 2), symbols("x", "y", "x")), columns("c", ints(1, 2, 3)))
	made(t, pairs(columns("a b", ints(1, 2), symbols("x", "x")), columns("c", ints(1, 3))))(keyed.Delete(two, one(1), symbol("y")))
	made(t, two)(keyed.Delete(two, one(2), symbol("y")))
	made(t, pairs(columns("a", ints()), columns("b", symbols())))(keyed.Delete(pairs(columns("a", ints(1)), columns("b", symbols("x"))), one(1)))
	lists := pairs(columns("a", list(ints(1), one(1))), columns("b", list(symbol("a"), one(2))))
	made(t, pairs(columns("a", ints(1)), columns("b", ints(2))))(keyed.Delete(lists, ints(1)))
	made(t, pairs(columns("a", list(ints(1))), columns("b", symbols("a"))))(keyed.Delete(lists, one(1)))
	made(t, pairs(columns("a", list()), columns("b", list())))(keyed.Delete(pairs(columns("a", list(list())), columns("b", list(ints()))), list()))
	none := pairs(columns("a", list()), columns("b", times()))
	made(t, none)(keyed.Delete(none, one(1)))
	made(t, none)(keyed.Delete(none, nothing()))
}

// TestLongPut: P12.3, P12.4: many rows at once.
func TestLongPut(t *testing.T) {
	k, keys := long()
	half := api.MaxCount / 2
	head := pairs(columns("a b", ints(keys[0].N[:half]...), symbols(keys[1].S[:half]...)), columns("c d", ints(k.L[1].L[0].N[:half]...), list(k.L[1].L[1].L[:half]...)))
	tail := columns("d c b a", list(k.L[1].L[1].L[half:]...), ints(k.L[1].L[0].N[half:]...), symbols(keys[1].S[half:]...), ints(keys[0].N[half:]...))
	made(t, k)(keyed.Insert(head, tail))
	made(t, k)(keyed.Upsert(head, tail))
	made(t, k)(keyed.Join(pairs(columns("a b", ints(), symbols()), columns("c d", ints(), list())), head, tail))
	again, e := keyed.Unkey(head)
	is(t, "Unkey", e, api.OK)
	zeros := ints(make([]int64, half)...)
	again.L[2] = zeros
	made(t, pairs(head.L[0], columns("c d", zeros, head.L[1].L[1])))(keyed.Upsert(head, again))
	refused(t, api.ErrKey)(keyed.Insert(head, again))
	last := api.MaxCount - 1
	less, e := keyed.Delete(k, one(keys[0].N[last]), symbol(keys[1].S[last]))
	is(t, "Delete", e, api.OK)
	is(t, "rows", value.Count(less), last)
	wantFind(t, less, last, one(keys[0].N[last]), symbol(keys[1].S[last]))
}
