package verbs_test

import (
	"strings"
	"testing"

	"quiver/api"
)

// keyedText is a keyed table, and bareText one without rows.
const (
	keyedText = "(([]a:`x`y)!([]b:1 2))"
	bareText  = "(([]a:()i)!([]b:()))"
)

// TestNeg: P16.2: -.
func TestNeg(t *testing.T) {
	monads(t, "-",
		[2]string{"5", "-5"}, [2]string{"0N", "0N"}, [2]string{"1b", "-1"}, [2]string{"1.5", "-1.5"}, [2]string{"1 -2 0N", "-1 2 0N"}, [2]string{"101b", "-1 0 -1"}, [2]string{"()b", "()i"}, [2]string{",5", ",-5"},
		[2]string{"(1;2 3)", "(-1;-2 -3)"}, [2]string{"((1;2.5);();,3 4)", "((-1;-2.5);();,-3 -4)"}, [2]string{"()", "()"}, [2]string{"(1;0b)", "-1 0"},
		[2]string{"(`a`b!1 2)", "(`a`b!-1 -2)"}, [2]string{"(`a`a!(1;2 3))", "(`a`a!(-1;-2 -3))"}, [2]string{"(()!())", "(()!())"}, [2]string{"(()s!()i)", "(()s!()i)"},
		[2]string{"([]a:1 2;b:1.5 -2.0)", "([]a:-1 -2;b:-1.5 2.0)"}, [2]string{"([]a:(1;2 3))", "([]a:(-1;-2 -3))"}, [2]string{"([]a:();b:()d)", "([]a:();b:()d)"},
		[2]string{keyedText, "(([]a:`x`y)!([]b:-1 -2))"}, [2]string{bareText, bareText},
		[2]string{"(1;(`a`b!1 2);([]a:,3);(([]k:,4)!([]v:,5)))", "(-1;(`a`b!-1 -2);([]a:,-3);(([]k:,4)!([]v:,-5)))"},
	)
	noMonads(t, "-", api.ErrType, "`a", "`a`b", "()s", "5t", "1t 2t", "{x}", "::", "(1;`a)", "(1;{x})", "(`a`b!`x`y)", "([]a:1 2;b:`x`y)", "([]a:1 2;b:(1;`y))", "(([]a:1 2)!([]b:`x`y))")
}

// TestNot: P16.2: ~.
func TestNot(t *testing.T) {
	monads(t, "~",
		[2]string{"0", "1b"}, [2]string{"0N", "0b"}, [2]string{"0 1 2", "100b"}, [2]string{"0t", "1b"}, [2]string{"0.0 0.5", "10b"}, [2]string{"01b", "10b"}, [2]string{"()d", "()b"},
		[2]string{"(0;1 0;2.5)", "(1b;01b;0b)"}, [2]string{"(0;2.5)", "10b"}, [2]string{"()", "()"}, [2]string{"(`a`b!0 1)", "(`a`b!10b)"}, [2]string{"([]a:0 1)", "([]a:10b)"}, [2]string{keyedText, "(([]a:`x`y)!([]b:00b))"},
	)
	noMonads(t, "~", api.ErrType, "`a", "`", "`a`b", "()s", "{x}", "::", "(0;`a)", "(`a`b!`x`y)", "([]a:`x`y)")
}

// TestNull: P16.2: ^.
func TestNull(t *testing.T) {
	monads(t, "^",
		[2]string{"0N", "1b"}, [2]string{"0", "0b"}, [2]string{"`", "1b"}, [2]string{"`a", "0b"}, [2]string{"0Nt", "1b"}, [2]string{"0Nd", "1b"}, [2]string{"1.5", "0b"}, [2]string{"0b", "0b"}, [2]string{"1b", "0b"},
		[2]string{"1 0N", "01b"}, [2]string{"`a``b", "010b"}, [2]string{"0Nt 1t", "10b"}, [2]string{"0Nd 1.0", "10b"}, [2]string{"01b", "00b"}, [2]string{"()i", "()b"}, [2]string{"()s", "()b"}, [2]string{",0N", ",1b"},
		[2]string{"(0N;1 0N;`)", "(1b;01b;1b)"}, [2]string{"(1;`)", "01b"}, [2]string{"()", "()"}, [2]string{"(`a`b!1 0N)", "(`a`b!01b)"}, [2]string{"([]a:1 0N;b:``x)", "([]a:01b;b:10b)"}, [2]string{"(([]a:1 0N)!([]b:1 0N))", "(([]a:1 0N)!([]b:01b))"},
	)
	noMonads(t, "^", api.ErrType, "{x}", "::", "(1;{x})", "(`a`b!(1;{x}))", "([]a:(1;{x}))")
}

// TestReciprocal: P16.2: %.
func TestReciprocal(t *testing.T) {
	monads(t, "%",
		[2]string{"2", "0"}, [2]string{"1", "1"}, [2]string{"-2", "-1"}, [2]string{"0", "0N"}, [2]string{"0N", "0N"}, [2]string{"1b", "1"}, [2]string{"2.0", "0.5"}, [2]string{"4.0 0.0", "0.25 0Nd"},
		[2]string{"(1;2 -1)", "(1;0 -1)"}, [2]string{"()", "()"}, [2]string{"(`a`b!1 2)", "(`a`b!1 0)"}, [2]string{"([]a:1 2)", "([]a:1 0)"}, [2]string{keyedText, "(([]a:`x`y)!([]b:1 0))"},
	)
	noMonads(t, "%", api.ErrType, "`a", "5t", "()s", "()t", "{x}", "::", "(1;`a)", "(`a`b!1t 2t)")
}

// TestFloor: P16.2: _.
func TestFloor(t *testing.T) {
	monads(t, "_",
		[2]string{"1.5", "1"}, [2]string{"-1.5", "-2"}, [2]string{"0Nd", "0N"}, [2]string{"1.5 -1.5", "1 -2"}, [2]string{"()d", "()i"}, [2]string{"5", "5"}, [2]string{"1 2", "1 2"}, [2]string{"5t", "5t"}, [2]string{"0Nt 1t", "0Nt 1t"}, [2]string{"1b", "1b"}, [2]string{"01b", "01b"}, [2]string{"()b", "()b"},
		[2]string{"(1.5;2.5 3.0;1b)", "(1;2 3;1b)"}, [2]string{"(1.5;2)", "1 2"}, [2]string{"()", "()"}, [2]string{"(`a`b!1.5 2.5)", "(`a`b!1 2)"}, [2]string{"([]a:1.5 2.5;b:1t 2t)", "([]a:1 2;b:1t 2t)"}, [2]string{"(([]a:1.5 2.5)!([]b:1.5 2.5))", "(([]a:1.5 2.5)!([]b:1 2))"},
	)
	noMonads(t, "_", api.ErrType, "`a", "`", "`a`b", "()s", "{x}", "::", "(1;`a)", "(`a`b!`x`y)", "([]a:1 2;b:`x`y)")
}

// TestFirstLast: P16.2: * first; last.
func TestFirstLast(t *testing.T) {
	for _, row := range [][3]string{
		{"5 6 7", "5", "7"}, {"()i", "0N", "0N"}, {"()s", "`", "`"}, {"()b", "0b", "0b"}, {"(1 2;`a)", "1 2", "`a"}, {"()", "()", "()"},
		{"(`a`b!1 2)", "1", "2"}, {"(`a`b!(1 2;`x))", "1 2", "`x"}, {"(()s!()t)", "0Nt", "0Nt"}, {"(()!())", "()", "()"},
		{"([]a:1 2 3;b:`x`y`z)", "(`a`b!(1;`x))", "(`a`b!(3;`z))"}, {"([]a:1 2;b:3 4)", "(`a`b!1 3)", "(`a`b!2 4)"}, {"([]a:(1 2;`x))", "(,`a!,1 2)", "(,`a!,`x)"},
		{"([]a:()i)", "(,`a!,0N)", "(,`a!,0N)"}, {"([]a:()i;b:()s;c:();d:()b)", "(`a`b`c`d!(0N;`;();0b))", "(`a`b`c`d!(0N;`;();0b))"}, {"([]a:())", "(,`a!,())", "(,`a!,())"},
		{"5", "5", "5"}, {"`a", "`a", "`a"}, {"{x}", "{x}", "{x}"}, {"::", "::", "::"}, {keyedText, keyedText, keyedText}, {bareText, bareText, bareText},
	} {
		monads(t, "*", [2]string{row[0], row[1]})
		monads(t, "last", [2]string{row[0], row[2]})
	}
}

// TestCount: P16.2: #.
func TestCount(t *testing.T) {
	monads(t, "#",
		[2]string{"()", "0"}, [2]string{"1 2 3", "3"}, [2]string{"(1;`a)", "2"}, [2]string{"5", "1"}, [2]string{"`abc", "1"}, [2]string{"{x+y}", "1"}, [2]string{"::", "1"}, [2]string{"(`a`b`c!1 2 3)", "3"}, [2]string{"([]a:1 2;b:3 4)", "2"}, [2]string{"([]a:()i)", "0"}, [2]string{keyedText, "2"}, [2]string{bareText, "0"},
	)
}

// TestReverse: P16.2: |.
func TestReverse(t *testing.T) {
	monads(t, "|",
		[2]string{"1 2 3", "3 2 1"}, [2]string{"()s", "()s"}, [2]string{"(1;`a;2 3)", "(2 3;`a;1)"}, [2]string{"()", "()"},
		[2]string{"([]a:1 2;b:`x`y)", "([]a:2 1;b:`y`x)"}, [2]string{"([]a:(1;`a))", "([]a:(`a;1))"}, [2]string{"([]a:())", "([]a:())"},
		[2]string{"(`a`b!1 2)", "(`b`a!2 1)"}, [2]string{"(`a`b!(1 2;3))", "(`b`a!(3;1 2))"}, [2]string{"(()!())", "(()!())"}, [2]string{keyedText, "(([]a:`y`x)!([]b:2 1))"}, [2]string{"(([]a:1 2;b:3 4)!([]c:`x`y;d:1.0 2.0))", "(([]a:2 1;b:4 3)!([]c:`y`x;d:2.0 1.0))"},
		[2]string{"5", "5"}, [2]string{"`ab", "`ab"}, [2]string{"{x}", "{x}"}, [2]string{"::", "::"},
	)
}

// TestWhere: P16.2: &.
func TestWhere(t *testing.T) {
	monads(t, "&",
		[2]string{"0110b", "1 2"}, [2]string{"2 0 1", "0 0 2"}, [2]string{"()b", "()i"}, [2]string{"()i", "()i"},
		[2]string{"(`a`b`c!011b)", "`b`c"}, [2]string{"(`a`b!2 1)", "`a`a`b"}, [2]string{"((1;`a;2)!101b)", "1 2"}, [2]string{"(`a`b!00b)", "()s"}, [2]string{"((1;`a)!00b)", "()"},
	)
	noMonads(t, "&", api.ErrType, "1b", "1", "1t 2t", "`a`b", "()", "(1;`a)", "(`a`b!`x`y)", "(`a`b!(1;1b))", "([]a:01b)", "(([]a:01b)!([]b:01b))", "{x}", "::")
	noMonads(t, "&", api.ErrArg, "1 -1", "(`a`b!1 -1)", "0N 1")
	noMonads(t, "&", api.ErrMany, "65536 1", "(`a`b!65536 1)")
}

// TestTil: P16.2: !.
func TestTil(t *testing.T) {
	monads(t, "!",
		[2]string{"3", "0 1 2"}, [2]string{"0", "()i"}, [2]string{"1", ",0"}, [2]string{"(`a`b!1 2)", "`a`b"}, [2]string{"((1;`a)!1 2)", "(1;`a)"}, [2]string{"(()!())", "()"}, [2]string{keyedText, "([]a:`x`y)"}, [2]string{"([]a:1 2;b:3 4)", "`a`b"}, [2]string{"([]a:())", ",`a"},
	)
	noMonads(t, "!", api.ErrArg, "-1", "0N")
	noMonads(t, "!", api.ErrMany, "65537", "9223372036854775807")
	noMonads(t, "!", api.ErrType, "1b", "3t", "3.0", "`a", ",3", "1 2", "()", "(1;`a)", "{x}", "::")
}

// TestGrade: P16.2: < and >.
func TestGrade(t *testing.T) {
	for _, row := range [][3]string{
		{"3 1 2 1", "1 3 2 0", "0 2 1 3"}, {"`b`a", "1 0", "0 1"}, {"()d", "()i", "()i"}, {"()", "()i", "()i"}, {"(`a;1)", "1 0", "0 1"},
		{"(`a`b`c!2 1 2)", "`b`a`c", "`a`c`b"}, {"((1;`a)!`y`x)", "(`a;1)", "(1;`a)"}, {"((1;`a;2)!`y`x`z)", "(`a;1;2)", "(2;1;`a)"}, {"(()!())", "()", "()"}, {"(()s!()i)", "()s", "()s"},
	} {
		monads(t, "<", [2]string{row[0], row[1]})
		monads(t, ">", [2]string{row[0], row[2]})
	}
	for _, name := range []string{"<", ">"} {
		noMonads(t, name, api.ErrType, "1", "`a", "([]a:1 2)", keyedText, "{x}", "::")
	}
}

// TestSorted: P16.2: asc, desc.
func TestSorted(t *testing.T) {
	for _, row := range [][3]string{
		{"3 1 0N 2", "0N 1 2 3", "3 2 1 0N"}, {"`b`a`", "``a`b", "`b`a`"}, {"()t", "()t", "()t"}, {"()", "()", "()"}, {"(`a;1;0b)", "(0b;1;`a)", "(`a;1;0b)"},
		{"(`a`b`c!2 1 2)", "(`b`a`c!1 2 2)", "(`a`c`b!2 2 1)"}, {"(()!())", "(()!())", "(()!())"},
	} {
		monads(t, "asc", [2]string{row[0], row[1]})
		monads(t, "desc", [2]string{row[0], row[2]})
	}
	for _, name := range []string{"asc", "desc"} {
		noMonads(t, name, api.ErrType, "1", "`a", "([]a:1 2)", keyedText, "{x}", "::")
	}
}

// TestGroup: P16.2: =.
func TestGroup(t *testing.T) {
	monads(t, "=", [2]string{"`x`y`x", "(`x`y!(0 2;,1))"}, [2]string{"(1;`a;1)", "((1;`a)!(0 2;,1))"}, [2]string{"()i", "(()i!())"}, [2]string{"()", "(()!())"})
	noMonads(t, "=", api.ErrType, "1", "(`a`b!1 2)", "([]a:1 2)", keyedText, "{x}", "::")
}

// TestDistinct: P16.2: ?.
func TestDistinct(t *testing.T) {
	monads(t, "?",
		[2]string{"2 1 2 1 3", "2 1 3"}, [2]string{"`b`a`b", "`b`a"}, [2]string{"()s", "()s"}, [2]string{"()", "()"}, [2]string{"(1;`a;1)", "(1;`a)"}, [2]string{"(1 2;1 2)", ",1 2"},
		[2]string{"([]a:1 1)", "([]a:,1)"}, [2]string{"([]a:2 1 2 2;b:`x`x`x`y)", "([]a:2 1 2;b:`x`x`y)"}, [2]string{"([]a:1 2;b:1 1)", "([]a:1 2;b:1 1)"}, [2]string{"([]a:()i)", "([]a:()i)"}, [2]string{"([]a:())", "([]a:())"}, [2]string{"([]a:(1;1 2;1;1 2))", "([]a:(1;1 2))"}, [2]string{"([]a:(`x;1;`x);b:1 1 1)", "([]a:(`x;1);b:1 1)"},
	)
	noMonads(t, "?", api.ErrType, "1", "`a", "(`a`b!1 2)", keyedText, "{x}", "::")
}

// TestEnlist: P16.2: , with one operand.
func TestEnlist(t *testing.T) {
	monads(t, ",", [2]string{"1", ",1"}, [2]string{"`a", ",`a"}, [2]string{"1 2", ",1 2"}, [2]string{"()", ",()"}, [2]string{"{x}", ",{x}"}, [2]string{"(`a`b!1 2)", ",(`a`b!1 2)"}, [2]string{"([]a:1 2)", ",([]a:1 2)"})
	noMonads(t, ",", api.ErrType, "::")
}

// TestType: P16.2: @.
func TestType(t *testing.T) {
	monads(t, "@", [2]string{"1 2", "2"}, [2]string{"1", "-2"}, [2]string{"1b", "-1"}, [2]string{"()b", "1"}, [2]string{"`a", "-3"}, [2]string{"`a`b", "3"}, [2]string{"1t", "-4"}, [2]string{"()t", "4"}, [2]string{"1.5", "-5"}, [2]string{"()d", "5"}, [2]string{"()", "0"}, [2]string{"(1;`a)", "0"}, [2]string{"([]a:1 2)", "98"}, [2]string{"(`a`b!1 2)", "99"}, [2]string{keyedText, "99"}, [2]string{"{x}", "100"}, [2]string{"::", "101"})
}

// TestString: P16.2: $ with one operand.
func TestString(t *testing.T) {
	for _, s := range kinds() {
		if s == "`a" || s == "`" {
			monads(t, "$", [2]string{s, s})
		} else {
			wantMonad(t, "$", read(t, s), symbol(s), api.OK)
		}
	}
	wantMonad(t, "$", symbol("a b\"\x01"), symbol("a b\"\x01"), api.OK)
	wantMonad(t, "$", symbol(strings.Repeat("a", 64)), symbol(strings.Repeat("a", 64)), api.OK)
	wantMonad(t, "$", symbols("a b"), symbol(",`\"a b\""), api.OK)
	exact := lambda("{" + strings.Repeat("x", 62) + "}")
	wantMonad(t, "$", exact, symbol(exact.S[0]), api.OK)
	wantMonad(t, "$", lambda("{x"+exact.S[0][1:]), api.V{}, api.ErrLong)
	wantMonad(t, "$", lambda("{"+strings.Repeat("x", api.MaxText-2)+"}"), api.V{}, api.ErrLong)
	wantMonad(t, "$", list(exact), api.V{}, api.ErrLong)
	wantMonad(t, "$", til(api.MaxCount), api.V{}, api.ErrLong)
	wantMonad(t, "$", lambda("{\x00}"), api.V{}, api.ErrType)
	wantMonad(t, "$", lambda("{\x00"+exact.S[0][1:]), api.V{}, api.ErrLong)
	wantMonad(t, "$", lambda("{}}"), api.V{}, api.ErrLambda)
	wantMonad(t, "$", list(lambda("{\"}"), exact), api.V{}, api.ErrLambda)
}

// TestValues: P16.2: .
func TestValues(t *testing.T) {
	monads(t, ".", [2]string{"(`a`b!1 2)", "1 2"}, [2]string{"(`a`b!(1;`x))", "(1;`x)"}, [2]string{"(()!()d)", "()d"}, [2]string{keyedText, "([]b:1 2)"}, [2]string{"([]a:1 2;b:`x`y)", "(1 2;`x`y)"}, [2]string{"([]a:1 2)", ",1 2"}, [2]string{"([]a:())", ",()"})
	noMonads(t, ".", api.ErrType, "1", "`a", "1 2", "()", "(1;`a)", "{x}", "::")
}

// TestFlip: P16.2: + with one operand.
func TestFlip(t *testing.T) {
	monads(t, "+",
		[2]string{"([]a:1 2;b:`x`y)", "(`a`b!(1 2;`x`y))"}, [2]string{"([]a:1 2)", "(,`a!,1 2)"}, [2]string{"([]a:())", "(,`a!,())"},
		[2]string{"(`a`b!(1 2;`x`y))", "([]a:1 2;b:`x`y)"}, [2]string{"(,`a!,(1;`x))", "([]a:(1;`x))"}, [2]string{"(`a`b!(();()i))", "([]a:();b:()i)"},
	)
	noMonads(t, "+", api.ErrType, "(`a`b!(1 2;`x))", "(`a`b!((`a`b!1 2);1 2))", "(`a`b!1 2)", "(()s!()i)", "((`a;1)!(1 2;3 4))", "(1 2!(1 2;3 4))", "(()!())", keyedText, "1", "1 2", "(1 2;3 4)", "{x}", "::")
	noMonads(t, "+", api.ErrColumn, "(()s!())", "(``b!(1 2;3 4))")
	noMonads(t, "+", api.ErrSchema, "(`a`a!(1 2;3 4))", "(`a`a!(1 2;3))")
	noMonads(t, "+", api.ErrLength, "(`a`b!(1 2;,3))")
}

// TestReduced: P16.2: sum, avg, min, max.
func TestReduced(t *testing.T) {
	for _, row := range [][5]string{
		{"1 0N 4", "5", "2", "1", "4"}, {"()i", "0", "0N", "0N", "0N"}, {"1.5 -0.5", "1.0", "0.5", "-0.5", "1.5"}, {"(`a`b!3 4)", "7", "3", "3", "4"}, {"((1;`a)!0N -1)", "-1", "-1", "-1", "-1"}, {"110b", "2", "0", "0b", "1b"},
	} {
		for i, name := range []string{"sum", "avg", "min", "max"} {
			monads(t, name, [2]string{row[0], row[i+1]})
		}
	}
	monads(t, "avg", [2]string{"1t 4t", "2t"})
	monads(t, "max", [2]string{"`a`c`b", "`c"}, [2]string{"(`a`b!`x`y)", "`y"})
	noMonads(t, "sum", api.ErrType, "1t 2t", "(`a`b!1t 2t)")
	noMonads(t, "avg", api.ErrType, "`a`b")
	noMonads(t, "sum", api.ErrOverflow, "9223372036854775807 1", "(`a`b!9223372036854775807 1)")
	for _, name := range []string{"sum", "avg", "min", "max"} {
		noMonads(t, name, api.ErrType, "1", "`a", "()", "(1;`a)", "(1 2;3 4)", "(`a`b!(1;`x))", "([]a:1 2)", keyedText, "{x}", "::")
	}
}

// TestAlong: P16.2: sums, mins, maxs, deltas: of no dictionary.
func TestAlong(t *testing.T) {
	for _, row := range [][5]string{{"5 0N 3", "5 5 8", "5 5 3", "5 5 5", "5 0N 0N"}, {"()i", "()i", "()i", "()i", "()i"}, {"1.5 2.5", "1.5 4.0", "1.5 1.5", "1.5 2.5", "1.5 1.0"}} {
		for i, name := range []string{"sums", "mins", "maxs", "deltas"} {
			monads(t, name, [2]string{row[0], row[i+1]})
		}
	}
	monads(t, "deltas", [2]string{"5t 7t", "0 2"})
	monads(t, "mins", [2]string{"`b`a`c", "`b`a`a"})
	noMonads(t, "sums", api.ErrOverflow, "9223372036854775807 1")
	noMonads(t, "deltas", api.ErrOverflow, "9223372036854775807 -1")
	noMonads(t, "sums", api.ErrType, "1t 2t", "`a`b")
	for _, name := range []string{"sums", "mins", "maxs", "deltas"} {
		noMonads(t, name, api.ErrType, "1", "()", "(1;`a)", "(`a`b!1 2)", "([]a:1 2)", keyedText, "{x}", "::")
	}
}

// TestNames: P16.2: keys, cols, key, unkey.
func TestNames(t *testing.T) {
	wide := "(([]a:1 2;b:3 4)!([]c:`x`y))"
	monads(t, "keys", [2]string{"(`a`b!1 2)", "`a`b"}, [2]string{"((1;`a)!1 2)", "(1;`a)"}, [2]string{"(()!())", "()"}, [2]string{wide, "([]a:1 2;b:3 4)"})
	noMonads(t, "keys", api.ErrType, "1", "1 2", "()", "([]a:1 2)", "{x}", "::")
	monads(t, "cols", [2]string{"([]b:1 2;a:3 4)", "`b`a"}, [2]string{"([]a:())", ",`a"}, [2]string{wide, "`a`b`c"}, [2]string{"(([]a:1 2)!([]a:1 2))", "`a`a"})
	noMonads(t, "cols", api.ErrType, "1", "1 2", "()", "(`a`b!1 2)", "(()!())", "{x}", "::")
	monads(t, "key", [2]string{wide, "`a`b"}, [2]string{keyedText, ",`a"}, [2]string{bareText, ",`a"})
	noMonads(t, "key", api.ErrType, "1", "1 2", "()", "([]a:1 2)", "(`a`b!1 2)", "{x}", "::")
	monads(t, "unkey", [2]string{wide, "([]a:1 2;b:3 4;c:`x`y)"}, [2]string{bareText, "([]a:()i;b:())"}, [2]string{"([]a:1 2)", "([]a:1 2)"})
	noMonads(t, "unkey", api.ErrType, "1", "1 2", "()", "(`a`b!1 2)", "{x}", "::")
	noMonads(t, "unkey", api.ErrSchema, "(([]a:1 2)!([]a:1 2))")
}
