package verbs_test

import (
	"testing"

	"quiver/api"
	"quiver/verbs"
)

// indexes holds Index against rows of what is taken apart, by what, and what that is.
func indexes(t *testing.T, rows ...[3]string) {
	t.Helper()
	for _, row := range rows {
		wantIndex(t, read(t, row[2]), api.OK, read(t, row[0]), read(t, row[1]))
	}
}

func noIndexes(t *testing.T, e api.Errno, rows ...[2]string) {
	t.Helper()
	for _, row := range rows {
		wantIndex(t, api.V{}, e, read(t, row[0]), read(t, row[1]))
	}
}

// TestIndexNothing: P16.5: by nothing at all, and by KNil: x itself.
func TestIndexNothing(t *testing.T) {
	for _, s := range kinds() {
		x := read(t, s)
		wantIndex(t, x, api.OK, x)
		wantIndex(t, x, api.OK, x, nothing())
		wantIndex(t, x, api.OK, x, nothing(), nothing())
	}
}

// TestIndexSequence: P16.5: vectors and lists.
func TestIndexSequence(t *testing.T) {
	indexes(t,
		[3]string{"5 6 7", "1", "6"}, [3]string{"5 6 7", "3", "0N"}, [3]string{"5 6 7", "-1", "0N"}, [3]string{"5 6 7", "0N", "0N"}, [3]string{"`a`b", "9", "`"}, [3]string{"01b", "9", "0b"}, [3]string{"()t", "0", "0Nt"}, [3]string{"(1 2;`a)", "0", "1 2"}, [3]string{"(1 2;`a)", "1", "`a"}, [3]string{"(1 2;`a)", "2", "()"}, [3]string{"()", "0", "()"},
		[3]string{"5 6 7", "2 0 9", "7 5 0N"}, [3]string{"5 6 7", ",1", ",6"}, [3]string{"5 6 7", "()i", "()i"}, [3]string{"(1 2;`a;3)", "1 0", "(`a;1 2)"}, [3]string{"(1 2;`a;3)", "2 2", "3 3"}, [3]string{"(1 2;`a)", ",0", ",1 2"}, [3]string{"(1 2;`a)", ",1", ",`a"}, [3]string{"(1 2;`a)", "()i", "()"}, [3]string{"(1 2;`a)", "0 9", "(1 2;())"}, [3]string{"()", "0 1", "(();())"}, [3]string{"()s", ",0", ",`"},
		[3]string{"5 6 7", "(0;1 2)", "(5;6 7)"}, [3]string{"5 6 7", "()", "()"}, [3]string{"5 6 7", "(0 1;(2;,0);())", "(5 6;(7;,5);())"}, [3]string{"(1 2;`a)", "(0;,1)", "(1 2;,`a)"}, [3]string{"5 6", ",0 1", ",5 6"},
	)
	noIndexes(t, api.ErrType, [2]string{"5 6", "0b"}, [2]string{"5 6", "01b"}, [2]string{"5 6", "`a"}, [2]string{"5 6", "`a`b"}, [2]string{"5 6", "()s"}, [2]string{"5 6", "0t"}, [2]string{"5 6", "0.0"}, [2]string{"5 6", "(0;`a)"}, [2]string{"5 6", "(0;(0;1.5))"}, [2]string{"5 6", "(`a`b!0 1)"}, [2]string{"5 6", "([]a:0 1)"}, [2]string{"5 6", "{x}"}, [2]string{"(1 2;`a)", "`a"}, [2]string{"()", "`a"}, [2]string{"5 6", keyedText})
}

// TestIndexDictionary: P16.5: dictionaries that are no keyed tables.
func TestIndexDictionary(t *testing.T) {
	indexes(t,
		[3]string{"(`a`b!1 2)", "`b", "2"}, [3]string{"(`a`b!1 2)", "`c", "0N"}, [3]string{"(`a`b!1 2)", "1", "0N"}, [3]string{"(`a`b!(1;`x))", "`c", "()"}, [3]string{"(`a`a!1 2)", "`a", "1"}, [3]string{"(`a`b!1 2)", "{x}", "0N"}, [3]string{"(`a`b!1 2)", "(`a`b!1 2)", "0N"}, [3]string{"(`a`b!1 2)", "([]a:1 2)", "0N"}, [3]string{"(`a`b!1 2)", keyedText, "0N"},
		[3]string{"(`a`b!1 2)", "`b`c`a", "2 0N 1"}, [3]string{"(`a`b!1 2)", ",`b", ",2"}, [3]string{"(`a`b!1 2)", "()s", "()i"}, [3]string{"(`a`b!1 2)", "1 2", "0N 0N"}, [3]string{"(`a`b!1 2)", "()i", "()i"}, [3]string{"(`a`b!(1;`x))", "`a`b", "(1;`x)"}, [3]string{"(`a`b!(1;`x))", "`a`a", "1 1"}, [3]string{"(`a`b!(1;`x))", ",`b", ",`x"}, [3]string{"(`a`b!(1 2;`x))", ",`a", ",1 2"}, [3]string{"(`a`b!(1 2;`x))", ",`z", ",()"}, [3]string{"(`a`b!(1;`x))", "`a`z", "(1;())"}, [3]string{"(`a`b!(1;`x))", "()s", "()"}, [3]string{"(1 2!`x`y)", "2 1", "`y`x"},
		[3]string{"(`a`b!1 2)", "(`a;1)", "0N"}, [3]string{"(`a`b!1 2)", "()", "0N"}, [3]string{"((1 2;`a)!5 6)", "1 2", "5"}, [3]string{"((1 2;`a)!5 6)", "`a", "6"}, [3]string{"((1 2;`a)!5 6)", "`a`a", "0N"}, [3]string{"((1 2;(1;`a))!5 6)", "(1;`a)", "6"}, [3]string{"((1 2;`a)!5 6)", ",`a", "0N"}, [3]string{"(()!())", "`a`b", "()"}, [3]string{"(()!()i)", "`a`b", "0N"}, [3]string{"(()s!())", "`a`b", "(();())"}, [3]string{"(()s!()d)", "`a`b", "0Nd 0Nd"}, [3]string{"((();1)!5 6)", "()", "5"},
	)
}

// TestIndexTable: P16.5: tables.
func TestIndexTable(t *testing.T) {
	x := "([]a:1 2 3;b:`x`y`z;c:(1;`q;2 3))"
	indexes(t,
		[3]string{x, "1", "(`a`b`c!(2;`y;`q))"}, [3]string{x, "3", "(`a`b`c!(0N;`;()))"}, [3]string{x, "-1", "(`a`b`c!(0N;`;()))"}, [3]string{x, "0N", "(`a`b`c!(0N;`;()))"}, [3]string{"([]a:1 2;b:3 4)", "1", "(`a`b!2 4)"}, [3]string{"([]a:1 2;b:3 4)", "2", "(`a`b!0N 0N)"}, [3]string{"([]a:())", "0", "(,`a!,())"},
		[3]string{x, "2 0", "([]a:3 1;b:`z`x;c:(2 3;1))"}, [3]string{x, ",1", "([]a:,2;b:,`y;c:,`q)"}, [3]string{x, "()i", "([]a:()i;b:()s;c:())"}, [3]string{x, "0 0", "([]a:1 1;b:`x`x;c:1 1)"},
		[3]string{x, "`b", "`x`y`z"}, [3]string{x, "`c", "(1;`q;2 3)"}, [3]string{x, "`b`a", "([]b:`x`y`z;a:1 2 3)"}, [3]string{x, ",`a", "([]a:1 2 3)"},
	)
	noIndexes(t, api.ErrRange, [2]string{x, "0 3"}, [2]string{x, ",-1"}, [2]string{x, "0N 1"}, [2]string{"([]a:())", ",0"})
	noIndexes(t, api.ErrColumn, [2]string{x, "`z"}, [2]string{x, "`"}, [2]string{x, "`a`z"}, [2]string{x, "()s"})
	noIndexes(t, api.ErrSchema, [2]string{x, "`a`a"})
	noIndexes(t, api.ErrType, [2]string{x, "0b"}, [2]string{x, "01b"}, [2]string{x, "0t"}, [2]string{x, "()d"}, [2]string{x, "()"}, [2]string{x, "(0;1 2)"}, [2]string{x, "(0;`a)"}, [2]string{x, "(`a`b!1 2)"}, [2]string{x, x}, [2]string{x, "{x}"})
}

// TestIndexKeyed: P16.5: keyed tables.
func TestIndexKeyed(t *testing.T) {
	two := "(([]a:1 2;b:`x`y)!([]c:5 6;d:`p`q))"
	indexes(t,
		[3]string{keyedText, "`y", "(,`b!,2)"}, [3]string{keyedText, "`z", "(,`b!,0N)"}, [3]string{keyedText, "1", "(,`b!,0N)"}, [3]string{bareText, "1", "(,`b!,())"}, [3]string{"(([]a:1 1)!([]b:3 4))", "1", "(,`b!,3)"},
		[3]string{two, "(2;`y)", "(`c`d!(6;`q))"}, [3]string{two, "(2;`x)", "(`c`d!(0N;`))"}, [3]string{two, "1 2", "(`c`d!(0N;`))"}, [3]string{"(([]a:1 2;b:3 4)!([]c:5 6))", "2 4", "(,`c!,6)"}, [3]string{two, "(1 2;`y)", "(`c`d!(0N;`))"}, [3]string{"(([]a:(1 2;3);b:3 4)!([]c:5 6))", "(1 2;3)", "(,`c!,5)"},
	)
	noIndexes(t, api.ErrType, [2]string{keyedText, ",`y"}, [2]string{keyedText, "`x`y"}, [2]string{keyedText, "()"}, [2]string{keyedText, "(`x;1)"}, [2]string{keyedText, "{x}"}, [2]string{keyedText, "(`a`b!1 2)"}, [2]string{keyedText, "([]a:,`x)"}, [2]string{"(([]a:(1 2;3))!([]b:1 2))", "1 2"}, [2]string{two, "2"}, [2]string{two, ",2"}, [2]string{two, "1 2 3"}, [2]string{two, "(2;`y;1)"}, [2]string{two, "()"}, [2]string{two, "(`a`b!1 2)"}, [2]string{two, "{x}"}, [2]string{"(([]a:1 2)!([]a:3 4))", ",1"})
	noIndexes(t, api.ErrSchema, [2]string{"(([]a:1 2)!([]a:3 4))", "1"})
}

// TestIndexOthers: P16.5: atoms, functions and nothing.
func TestIndexOthers(t *testing.T) {
	for _, s := range []string{"5", "`a", "1b", "{x}", "::"} {
		for _, r := range kinds() {
			if r != "::" {
				noIndexes(t, api.ErrType, [2]string{s, r})
			}
		}
	}
}

// TestIndexMany: P16.5: by one after the other.
func TestIndexMany(t *testing.T) {
	x := read(t, "(1 2;(`a`b!(5 6;`x)))")
	wantIndex(t, one(6), api.OK, x, one(1), symbol("a"), one(1))
	wantIndex(t, ints(6, 5), api.OK, x, one(1), nothing(), symbol("a"), ints(1, 0))
	wantIndex(t, one(2), api.OK, x, one(0), one(1))
	wantIndex(t, ints(2, null), api.OK, x, one(0), ints(0, 1), ints(1, 7))
	wantIndex(t, api.V{}, api.ErrType, x, one(0), one(1), one(0))
	wantIndex(t, api.V{}, api.ErrType, x, symbol("a"), one(1))
	wantIndex(t, api.V{}, api.ErrColumn, read(t, "([]a:1 2)"), symbol("z"), lambda("{x}"))
	wantIndex(t, api.V{}, api.ErrType, read(t, "([]a:1 2)"), lambda("{x}"), symbol("z"))
	v, e := verbs.Index(read(t, "([]a:1 2)"), []api.V{}...)
	wants(t, v, e, read(t, "([]a:1 2)"), api.OK, "Index by none")
}
