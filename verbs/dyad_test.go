package verbs_test

import (
	"testing"

	"quiver/api"
	"quiver/value"
	"quiver/vec"
	"quiver/verbs"
)

// operations are the verbs and words that are an operation of package vec: 16.2.
func operations() map[string]int {
	return map[string]int{"+": api.OpAdd, "-": api.OpSub, "*": api.OpMul, "%": api.OpDiv, "&": api.OpMin, "|": api.OpMax, "<": api.OpLt, ">": api.OpGt, "=": api.OpEq, "div": api.OpDiv, "mod": api.OpMod}
}

// TestOperations: P16.3: of atoms and vectors what package vec does, with its errors.
func TestOperations(t *testing.T) {
	for name, op := range operations() {
		for _, s := range kinds() {
			for _, r := range kinds() {
				x, y := read(t, s), read(t, r)
				if (value.IsAtom(x) || x.T > 0 && x.T <= api.KDec) && (value.IsAtom(y) || y.T > 0 && y.T <= api.KDec) {
					want, e := vec.Do(op, x, y)
					wantDyad(t, name, x, y, want, e)
				}
			}
		}
	}
	for _, row := range [][4]string{{"+", "7", "2", "9"}, {"-", "7", "2", "5"}, {"*", "7", "2", "14"}, {"%", "-7", "2", "-4"}, {"div", "-7", "2", "-4"}, {"mod", "-7", "2", "1"}, {"&", "7", "2", "2"}, {"|", "7", "2", "7"}, {"<", "7", "2", "0b"}, {">", "7", "2", "1b"}, {"=", "7", "2", "0b"}} {
		dyads(t, row[0], [3]string{row[1], row[2], row[3]})
	}
}

// TestPairs: P16.3: lists, dictionaries and tables, either way.
func TestPairs(t *testing.T) {
	dyads(t, "-",
		[3]string{"(1;2 3)", "10", "(-9;-8 -7)"}, [3]string{"10", "(1;2 3)", "(9;8 7)"}, [3]string{"(1;2 3)", "10 20", "(-9;-18 -17)"}, [3]string{"10 20", "(1;2 3)", "(9;18 17)"}, [3]string{"(1;2 3)", "(10;20 30)", "(-9;-18 -27)"}, [3]string{"(1;2.5)", "1 2", "(0;0.5)"}, [3]string{"((1;2.5);3)", "(10 20;(1;2.5))", "((-9;-17.5);(2;0.5))"},
		[3]string{"()", "()", "()"}, [3]string{"()", "5", "()"}, [3]string{"5", "()", "()"}, [3]string{"()", "()i", "()"}, [3]string{"()s", "()", "()"}, [3]string{"()", "{x}", "()"}, [3]string{"::", "()", "()"}, [3]string{"()", "(`a`b!1 2)", "()"}, [3]string{"([]a:1 2)", "()", "()"}, [3]string{"()", keyedText, "()"}, [3]string{"()", "`a", "()"}, [3]string{"(();())", "::", "(();())"}, [3]string{"(();())", keyedText, "(();())"},
		[3]string{"(1;2.5)", "(`a`b!1 2)", "((`a`b!0 -1);(`a`b!1.5 0.5))"}, [3]string{"(`a`b!1 2)", "(1;3 4)", "((`a`b!0 1);(`a`b!-2 -2))"}, [3]string{"(1;2.5)", "([]a:1 2)", "(([]a:0 -1);([]a:1.5 0.5))"}, [3]string{"([]a:1 2)", "(1;2.5)", "(([]a:0 1);([]a:-1.5 -0.5))"},
		[3]string{"(`a`b!1 2)", "10", "(`a`b!-9 -8)"}, [3]string{"10", "(`a`b!1 2)", "(`a`b!9 8)"}, [3]string{"(`a`b!1 2)", "10 20", "(`a`b!-9 -18)"}, [3]string{"10 20", "(`a`b!1 2)", "(`a`b!9 18)"}, [3]string{"(`a`b!(1;2 3))", "10 20", "(`a`b!(-9;-18 -17))"}, [3]string{"(`a`a!(1;2 3))", "1", "(`a`a!(0;1 2))"}, [3]string{"(()!())", "1", "(()!())"}, [3]string{"(()s!()i)", "()i", "(()s!()i)"},
		[3]string{"([]a:1 2;b:1.5 2.5)", "1", "([]a:0 1;b:0.5 1.5)"}, [3]string{"1", "([]a:1 2;b:1.5 2.5)", "([]a:0 -1;b:-0.5 -1.5)"}, [3]string{"([]a:(1;2 3))", "1", "([]a:(0;1 2))"}, [3]string{"([]a:();b:()d)", "1", "([]a:();b:()d)"},
		[3]string{"(`a`b!(([]c:1 2);5))", "1", "(`a`b!(([]c:0 1);4))"}, [3]string{"(`a`b!(([]c:1 2);5))", "1 2", "(`a`b!(([]c:0 1);3))"}, [3]string{"([]a:((`x`y!1 2);3))", "1", "([]a:((`x`y!0 1);2))"},
	)
	dyads(t, "=", [3]string{"(1;2.5)", "1", "10b"}, [3]string{"(1;`a;2 1)", "(1;`b;1)", "(1b;0b;01b)"}, [3]string{"(`a`b!`x`y)", "`x", "(`a`b!10b)"})
	noDyads(t, "+", api.ErrLength, [2]string{"(1;2 3)", "1 2 3"}, [2]string{"1 2 3", "(1;2 3)"}, [2]string{"(1;2 3)", "(1;2 3;4)"}, [2]string{"(1;2 3)", "(1;2 3 4)"}, [2]string{"()", ",1"}, [2]string{"()i", "(1;2.5)"}, [2]string{"()", ",()"}, [2]string{"(`a`b!1 2)", "1 2 3"}, [2]string{"(`a`b!1 2)", "()i"}, [2]string{"(`a`b!(1;2 3))", ",1"}, [2]string{"(1;2 3)", "`a`b`c"}, [2]string{"(1;`a)", "1 2 3"})
	noDyads(t, "+", api.ErrType,
		[2]string{"1", "`a"}, [2]string{"(1;`a)", "1"}, [2]string{"(`a;1)", "(1;`a)"}, [2]string{"1", "::"}, [2]string{"(1;2.5)", "::"}, [2]string{"{x}", "1"}, [2]string{"{x}", "(1;2.5)"}, [2]string{"{x}", "{x}"}, [2]string{"::", "::"},
		[2]string{"(`a`b!1 2)", "(`a`b!1 2)"}, [2]string{"(`a`b!1 2)", "([]a:1 2)"}, [2]string{"([]a:1 2)", "(`a`b!1 2)"}, [2]string{"([]a:1 2)", "([]a:1 2)"}, [2]string{"([]a:1 2)", "1 2"}, [2]string{"1 2", "([]a:1 2)"}, [2]string{"([]a:1 2)", ",1"}, [2]string{"([]a:1 2)", "{x}"}, [2]string{"(`a`b!1 2)", "::"}, [2]string{"(1 2;3)", "([]a:1 2)"},
		[2]string{keyedText, "1"}, [2]string{"1", keyedText}, [2]string{keyedText, keyedText}, [2]string{"(1;2.5)", keyedText}, [2]string{"(([]a:1 2)!([]b:1 2))", "1"}, [2]string{"([]a:1 2;b:`x`y)", "1"},
	)
	noDyads(t, "+", api.ErrOverflow, [2]string{"(1 1;9223372036854775807)", "1"}, [2]string{"(`a`b!9223372036854775807 1)", "1"})
}

// TestFirstError: P16.3: the elements are done in order: the first error is told.
func TestFirstError(t *testing.T) {
	noDyads(t, "+", api.ErrOverflow, [2]string{"(9223372036854775807;`a)", "1"}, [2]string{"(9223372036854775807 1;1 2)", "(1;1 2 3)"}, [2]string{"([]a:9223372036854775807 1;b:`x`y)", "1"})
	noDyads(t, "+", api.ErrType, [2]string{"(`a;9223372036854775807)", "1"}, [2]string{"(`a`b;1 2)", "(1;1 2 3)"})
	noDyads(t, "+", api.ErrLength, [2]string{"(1 2;`a)", "(1 2 3;1)"})
	noMonads(t, "-", api.ErrType, "(1;`a;2)")
}

// TestMatch: P16.3: ~.
func TestMatch(t *testing.T) {
	for i, s := range kinds() {
		for j, r := range kinds() {
			want := truth(0)
			if i == j {
				want = truth(1)
			}
			wantDyad(t, "~", read(t, s), read(t, r), want, api.OK)
		}
	}
}

// TestJoin: P16.3: ,.
func TestJoin(t *testing.T) {
	dyads(t, ",",
		[3]string{"1", "2", "1 2"}, [3]string{"1", "2 3", "1 2 3"}, [3]string{"1 2", "`a", "(1;2;`a)"}, [3]string{"()i", "()", "()"}, [3]string{"()", "1", ",1"}, [3]string{"{x}", "{y}", "({x};{y})"}, [3]string{"1 2", "()i", "1 2"},
		[3]string{"(`a`b!1 2)", "(`b`c!3 4)", "(`a`b`c!1 3 4)"}, [3]string{"(()!())", "(`a`b!1 2)", "(`a`b!1 2)"}, [3]string{"(`a`b!1 2)", "([]a:,1;b:,2)", "((`a`b!1 2);([]a:,1;b:,2))"}, [3]string{"(`a`b!1 2)", "5", "((`a`b!1 2);5)"}, [3]string{"5", "(`a`b!1 2)", "(5;(`a`b!1 2))"}, [3]string{"(`a`b!1 2)", "5 6", "((`a`b!1 2);5;6)"},
		[3]string{"([]a:1 2;b:`x`y)", "([]b:,`z;a:,3)", "([]a:1 2 3;b:`x`y`z)"}, [3]string{"([]a:1 2;b:`x`y)", "(`b`a!(`z;3))", "([]a:1 2 3;b:`x`y`z)"}, [3]string{"([]a:1 2)", "5", "(([]a:1 2);5)"}, [3]string{"([]a:1 2)", "5 6", "(([]a:1 2);5;6)"}, [3]string{"([]a:1 2)", keyedText, "(([]a:1 2);" + keyedText + ")"}, [3]string{"5", "([]a:1 2)", "(5;([]a:1 2))"},
		[3]string{keyedText, "(([]a:`y`z)!([]b:7 8))", "(([]a:`x`y`z)!([]b:1 7 8))"}, [3]string{keyedText, "([]b:7 8;a:`y`z)", "(([]a:`x`y`z)!([]b:1 7 8))"}, [3]string{keyedText, "(`a`b!(`x;9))", "(([]a:`x`y)!([]b:9 2))"}, [3]string{keyedText, "5", "(" + keyedText + ";5)"}, [3]string{"(`a`b!(`x;9))", keyedText, "((`a`b!(`x;9));" + keyedText + ")"}, [3]string{keyedText, "{x}", "(" + keyedText + ";{x})"},
	)
	noDyads(t, ",", api.ErrType, [2]string{"1", "::"}, [2]string{"::", "1"}, [2]string{"::", "::"}, [2]string{"(`a`b!1 2)", "::"}, [2]string{"([]a:1 2)", "::"}, [2]string{keyedText, "::"}, [2]string{"([]a:1 2)", "([]a:`x`y)"}, [2]string{"([]a:1 2)", "(,`a!,`x)"}, [2]string{"([]a:1 2)", "((1;`a)!1 2)"}, [2]string{keyedText, "(`a`b!1 2)"}, [2]string{"([]a:1 2)", "(()!())"})
	noDyads(t, ",", api.ErrSchema, [2]string{"([]a:1 2)", "([]b:1 2)"}, [2]string{"([]a:1 2)", "(`a`b!1 2)"}, [2]string{keyedText, "([]a:`x`y)"}, [2]string{"([]a:1 2)", "(()s!())"}, [2]string{"(([]a:1 2)!([]a:1 2))", "([]a:1 2)"})
}

// TestBang: P16.3: !.
func TestBang(t *testing.T) {
	dyads(t, "!",
		[3]string{"1", "([]a:1 2;b:3 4)", "(([]a:1 2)!([]b:3 4))"}, [3]string{"2", "([]a:1 1;b:1 2;c:`x`y)", "(([]a:1 1;b:1 2)!([]c:`x`y))"}, [3]string{"0", "([]a:1 2)", "([]a:1 2)"}, [3]string{"0", "([]a:1 1;b:1 1)", "([]a:1 1;b:1 1)"},
		[3]string{"0", keyedText, "([]a:`x`y;b:1 2)"}, [3]string{"0", bareText, "([]a:()i;b:())"},
		[3]string{"([]a:1 2)", "([]b:3 4)", "(([]a:1 2)!([]b:3 4))"}, [3]string{"([]a:1 1)", "([]a:3 4)", "(([]a:1 1)!([]a:3 4))"}, [3]string{"([]a:())", "([]b:()i)", "(([]a:())!([]b:()i))"},
		[3]string{"`a`b", "1 2", "(`a`b!1 2)"}, [3]string{"`a`a", "(1;`x)", "(`a`a!(1;`x))"}, [3]string{"()", "()i", "(()!()i)"},
	)
	noDyads(t, "!", api.ErrArg, [2]string{"-1", "([]a:1 2;b:3 4)"}, [2]string{"2", "([]a:1 2;b:3 4)"}, [2]string{"3", "([]a:1 2;b:3 4)"}, [2]string{"1", "([]a:1 2)"}, [2]string{"0N", "([]a:1 2)"}, [2]string{"9223372036854775807", "([]a:1 2)"}, [2]string{"2", "([]a:1 1;b:3 4)"})
	noDyads(t, "!", api.ErrKey, [2]string{"1", "([]a:1 1;b:3 4)"})
	noDyads(t, "!", api.ErrSchema, [2]string{"0", "(([]a:1 2)!([]a:1 2))"})
	noDyads(t, "!", api.ErrType, [2]string{"0b", "([]a:1 2)"}, [2]string{"1b", "([]a:1 2;b:3 4)"}, [2]string{",1", "([]a:1 2;b:3 4)"}, [2]string{"1", keyedText}, [2]string{"-1", keyedText}, [2]string{"0b", keyedText}, [2]string{",0", keyedText}, [2]string{"([]a:1 2)", "([]b:,1)"}, [2]string{"([]a:1 2)", "1 2"}, [2]string{"1 2", "([]a:1 2)"}, [2]string{"`a", "1"}, [2]string{"0", "(`a`b!1 2)"}, [2]string{"0", "1 2"}, [2]string{"`a`b", "::"}, [2]string{"{x}", "1 2"}, [2]string{"`a", "([]a:1 2;b:3 4)"})
	noDyads(t, "!", api.ErrLength, [2]string{"`a`b", "1 2 3"}, [2]string{"()", ",1"})
}

// TestFill: P16.3: ^.
func TestFill(t *testing.T) {
	dyads(t, "^",
		[3]string{"7", "0N", "7"}, [3]string{"7", "1 0N", "1 7"}, [3]string{"`z", "`a``b", "`a`z`b"}, [3]string{"7t", "0Nt 1t", "7t 1t"}, [3]string{"1b", "01b", "01b"}, [3]string{"7", "()i", "()i"},
		[3]string{"7", "(0N;1 0N;`;`a`)", "(7;1 7;`;`a`)"}, [3]string{"7", "()", "()"}, [3]string{"`z", "(0N;`)", "(0N;`z)"}, [3]string{"7", "((0N;`);(0Nt;(0N 1;{x})))", "((7;`);(0Nt;(7 1;{x})))"}, [3]string{"7", "(`;`a`b)", "(`;`a`b)"},
		[3]string{"7", "(`a`b!1 0N)", "(`a`b!1 7)"}, [3]string{"7", "(`a`b!`x`)", "(`a`b!`x`)"}, [3]string{"7", "(0N 1!(0N;`))", "(0N 1!(7;`))"}, [3]string{"7", "(()!())", "(()!())"}, [3]string{"7", "(`a`b!((1 2!3 0N);0N))", "(`a`b!((1 2!3 7);7))"},
		[3]string{"7", "([]a:1 0N;b:`x`;c:(0N;`))", "([]a:1 7;b:`x`;c:(7;`))"}, [3]string{"`z", "([]a:1 0N;b:`x`)", "([]a:1 0N;b:`x`z)"}, [3]string{"7.0", "([]a:1 0N)", "([]a:1 0N)"},
		[3]string{"7", "(0N;(([]a:1 0N)!([]b:1 0N)))", "(7;(([]a:1 0N)!([]b:1 0N)))"}, [3]string{"7", "(0N;([]a:1 0N);(`a`b!1 0N);{x})", "(7;([]a:1 7);(`a`b!1 7);{x})"}, [3]string{"7", "(`a`b!((([]a:1 0N)!([]b:1 0N));0N))", "(`a`b!((([]a:1 0N)!([]b:1 0N));7))"}, [3]string{"0N", "(0N;`)", "(0N;`)"},
	)
	noDyads(t, "^", api.ErrType,
		[2]string{"7", "`a`"}, [2]string{"7", "0Nt"}, [2]string{"7", "0.5"}, [2]string{",7", "1 0N"}, [2]string{"7 8", "1 0N"}, [2]string{"7", "{x}"}, [2]string{"7", "::"}, [2]string{"7", keyedText}, [2]string{"7", bareText}, [2]string{"{x}", "1 0N"}, [2]string{"::", "1 0N"},
		[2]string{",7", "(0N;`)"}, [2]string{"()", "()"}, [2]string{"{x}", "()"}, [2]string{"::", "(`a`b!1 0N)"}, [2]string{"7 8", "([]a:1 0N)"}, [2]string{"(`a`b!1 2)", "(`a`b!1 0N)"}, [2]string{"([]a:1 2)", "([]a:1 2)"},
	)
}

// TestTake: P16.3: #.
func TestTake(t *testing.T) {
	dyads(t, "#",
		[3]string{"2", "1 2 3", "1 2"}, [3]string{"-2", "1 2 3", "2 3"}, [3]string{"5", "1 2", "1 2 1 2 1"}, [3]string{"2", "()s", "``"}, [3]string{"2", "()", "(();())"}, [3]string{"2", "(1;2;`a)", "1 2"}, [3]string{"0", "1 2", "()i"},
		[3]string{"2", "([]a:1 2 3;b:`x`y`z)", "([]a:1 2;b:`x`y)"}, [3]string{"-2", "([]a:1 2 3)", "([]a:2 3)"}, [3]string{"5", "([]a:1 2)", "([]a:1 2 1 2 1)"}, [3]string{"-3", "([]a:1 2)", "([]a:2 1 2)"}, [3]string{"0", "([]a:1 2)", "([]a:()i)"}, [3]string{"2", "([]a:()i;b:())", "([]a:()i;b:())"}, [3]string{"-1", "([]a:()i)", "([]a:()i)"}, [3]string{"65537", "([]a:()i)", "([]a:()i)"}, [3]string{"2", "([]a:(1;2;`x))", "([]a:1 2)"},
		[3]string{"`a", "([]b:1 2;a:3 4)", "([]a:3 4)"}, [3]string{"`a`b", "([]b:1 2;a:3 4)", "([]a:3 4;b:1 2)"}, [3]string{",`b", "([]b:1 2;a:3 4)", "([]b:1 2)"},
	)
	noDyads(t, "#", api.ErrType, [2]string{"2", "5"}, [2]string{"2", "(`a`b!1 2)"}, [2]string{"2", keyedText}, [2]string{"`b", keyedText}, [2]string{"2", "{x}"}, [2]string{"2", "::"}, [2]string{"1b", "1 2"}, [2]string{",2", "1 2"}, [2]string{"2t", "1 2"}, [2]string{"2.0", "([]a:1 2)"}, [2]string{"1 2", "([]a:1 2)"}, [2]string{"`a", "1 2"}, [2]string{"`a", "(`a`b!1 2)"}, [2]string{"()", "([]a:1 2)"}, [2]string{"(`a;1)", "([]a:1 2)"}, [2]string{"{x}", "1 2"}, [2]string{"65537", "5"})
	noDyads(t, "#", api.ErrMany, [2]string{"65537", "1 2"}, [2]string{"-65537", "([]a:1 2)"}, [2]string{"0N", "()"}, [2]string{"9223372036854775807", "([]a:1 2)"})
	noDyads(t, "#", api.ErrColumn, [2]string{"`z", "([]a:1 2)"}, [2]string{"()s", "([]a:1 2)"}, [2]string{"`a`z", "([]a:1 2)"})
	noDyads(t, "#", api.ErrSchema, [2]string{"`a`a", "([]a:1 2)"})
}

// TestDrop: P16.3: _.
func TestDrop(t *testing.T) {
	dyads(t, "_",
		[3]string{"1", "1 2 3", "2 3"}, [3]string{"-1", "1 2 3", "1 2"}, [3]string{"9", "1 2", "()i"}, [3]string{"1", "(`a;1;2)", "1 2"}, [3]string{"0N", "1 2", "()i"}, [3]string{"1", "()", "()"},
		[3]string{"1", "([]a:1 2 3;b:`x`y`z)", "([]a:2 3;b:`y`z)"}, [3]string{"-1", "([]a:1 2 3)", "([]a:1 2)"}, [3]string{"9", "([]a:1 2)", "([]a:()i)"}, [3]string{"0", "([]a:1 2)", "([]a:1 2)"}, [3]string{"1", "([]a:())", "([]a:())"}, [3]string{"9223372036854775807", "([]a:1 2)", "([]a:()i)"},
		[3]string{"`a", "(`a`b!1 2)", "(,`b!,2)"}, [3]string{"`z", "(`a`b!1 2)", "(`a`b!1 2)"}, [3]string{"1", "(1 2!`x`y)", "(,2!,`y)"}, [3]string{"`a`b", "(`a`b`c!1 2 3)", "(,`c!,3)"}, [3]string{"`a`a", "(`a`b`a!1 2 3)", "(,`b!,2)"}, [3]string{"()s", "(`a`b!1 2)", "(`a`b!1 2)"}, [3]string{"1 3", "(1 2 3!`x`y`z)", "(,2!,`y)"}, [3]string{"1", "(`a`b!1 2)", "(`a`b!1 2)"}, [3]string{"1b", "(01b!1 2)", "(,0b!,1)"}, [3]string{"1 2", "((1 2;1;2;`a)!1 2 3 4)", "((1 2;`a)!1 4)"},
		[3]string{"`a", "([]a:1 2;b:3 4)", "([]b:3 4)"}, [3]string{"`a`c", "([]a:1 2;b:3 4;c:5 6)", "([]b:3 4)"}, [3]string{"()s", "([]a:1 2)", "([]a:1 2)"},
	)
	noDyads(t, "_", api.ErrType, [2]string{"1", "5"}, [2]string{"1", "{x}"}, [2]string{"1", "::"}, [2]string{"1", keyedText}, [2]string{"`a", keyedText}, [2]string{"1b", "1 2"}, [2]string{",1", "1 2"}, [2]string{"1 2", "1 2 3"}, [2]string{"`a", "`a`b"}, [2]string{"1 2", "([]a:1 2)"}, [2]string{"1t", "([]a:1 2)"}, [2]string{"(1;`a)", "(`a`b!1 2)"}, [2]string{"()", "(`a`b!1 2)"}, [2]string{"{x}", "(`a`b!1 2)"}, [2]string{"::", "(`a`b!1 2)"}, [2]string{"(`a`b!1 2)", "(`a`b!1 2)"}, [2]string{"()", "([]a:1 2)"})
	noDyads(t, "_", api.ErrColumn, [2]string{"`z", "([]a:1 2)"}, [2]string{"`a", "([]a:1 2)"}, [2]string{"`a`z", "([]a:1 2;b:3 4)"})
}

// TestFindVerb: P16.3: ?.
func TestFindVerb(t *testing.T) {
	dyads(t, "?",
		[3]string{"`a`b`a", "`b", "1"}, [3]string{"`a`b`a", "`a", "0"}, [3]string{"1 2", "9", "2"}, [3]string{"1 2 1", "2 9 1", "1 3 0"}, [3]string{"1 2", "()i", "()i"}, [3]string{"()i", "1 2", "0 0"}, [3]string{"1 0N", "0N", "1"}, [3]string{"1 2", "1.0 2.0", "2 2"}, [3]string{"1 2", "`a`b", "2 2"}, [3]string{"1 2", "1.0", "2"}, [3]string{"01b", "1 0", "2 2"}, [3]string{"1 2", ",2", ",1"}, [3]string{"``a", "`a``b", "1 0 2"},
		[3]string{"1 2", "(1;`a)", "2"}, [3]string{"1 2", "()", "2"}, [3]string{"1 2", "{x}", "2"}, [3]string{"1 2", "::", "2"}, [3]string{"1 2", "(`a`b!1 2)", "2"}, [3]string{"(1;`a;1 2)", "1 2", "2"}, [3]string{"(1;`a;1 2)", "`a", "1"}, [3]string{"(1;`a;1 2)", "`a`b", "3"}, [3]string{"(1;`a;1 2)", "(1;`a;1 2)", "3"}, [3]string{"(([]a:1 2);`a)", "([]a:1 2)", "0"}, [3]string{"()", "()", "0"}, [3]string{",()", "()", "0"}, [3]string{"()", "1 2", "0"},
	)
	noDyads(t, "?", api.ErrType, [2]string{"1", "1"}, [2]string{"1", "1 2"}, [2]string{"`a", "`a"}, [2]string{"(`a`b!1 2)", "1"}, [2]string{"([]a:1 2)", "1"}, [2]string{keyedText, "1"}, [2]string{"{x}", "1"}, [2]string{"::", "1 2"})
}

// TestCast: P16.3: $.
func TestCast(t *testing.T) {
	dyads(t, "$",
		[3]string{"`b", "0 1 5 0N", "0110b"}, [3]string{"`i", "1.5 -1.5", "1 -2"}, [3]string{"`t", "5", "5t"}, [3]string{"`d", "1 2", "1.0 2.0"}, [3]string{"`i", "10b", "1 0"}, [3]string{"`i", "5t", "5"}, [3]string{"`d", "0N", "0Nd"}, [3]string{"`d", "()i", "()d"},
		[3]string{"`d", "(1;2 3;1b)", "(1.0;2.0 3.0;1.0)"}, [3]string{"`i", "(1;2.5)", "1 2"}, [3]string{"`i", "()", "()"}, [3]string{"`d", "(`a`b!1 2)", "(`a`b!1.0 2.0)"}, [3]string{"`d", "(`a`b!(1;2 3))", "(`a`b!(1.0;2.0 3.0))"}, [3]string{"`d", "([]a:1 2;b:01b)", "([]a:1.0 2.0;b:0.0 1.0)"}, [3]string{"`d", keyedText, "(([]a:`x`y)!([]b:1.0 2.0))"},
	)
	noDyads(t, "$", api.ErrArg, [2]string{"`s", "1"}, [2]string{"`", "1"}, [2]string{"`bool", "1 2"}, [2]string{"`B", "`a"}, [2]string{"`x", "::"}, [2]string{"`x", "()"})
	noDyads(t, "$", api.ErrType, [2]string{"`i", "`a"}, [2]string{"`i", "`a`b"}, [2]string{"`i", "()s"}, [2]string{"`i", "{x}"}, [2]string{"`i", "::"}, [2]string{"`i", "(1;`a)"}, [2]string{"`i", "([]a:`x`y)"}, [2]string{",`i", "1"}, [2]string{"`i`d", "1 2"}, [2]string{"1", "1"}, [2]string{"()s", "1"}, [2]string{"{x}", "1"}, [2]string{"::", "1"}, [2]string{"()", "()"})
	noDyads(t, "$", api.ErrOverflow, [2]string{"`d", "9223372036854775807"}, [2]string{"`d", "(1;9223372036854775807;`a)"})
}

// TestApply: P16.3: .
func TestApply(t *testing.T) {
	dyads(t, ".",
		[3]string{"(1 2;3 4)", "1 0", "3"}, [3]string{"(1 2;3 4)", ",1", "3 4"}, [3]string{"(1 2;3 4)", "()i", "(1 2;3 4)"}, [3]string{"(1 2;3 4)", "()", "(1 2;3 4)"}, [3]string{"5", "()s", "5"}, [3]string{"{x}", "()", "{x}"}, [3]string{"::", "()", "::"}, [3]string{"(1 2;3 4)", "(1;0 1)", "3 4"}, [3]string{"(`a`b!(1 2;3 4))", "(`b;0)", "3"}, [3]string{"([]a:1 2;b:3 4)", "(`b;1)", "4"}, [3]string{"([]a:1 2;b:3 4)", "(1;`b)", "4"}, [3]string{"(`a`b!((`c`d!1 2);3))", "`a`d", "2"}, [3]string{keyedText, "`x`b", "1"},
	)
	noDyads(t, ".", api.ErrType, [2]string{"1 2", "1"}, [2]string{"1 2", "`a"}, [2]string{"1 2", "::"}, [2]string{"1 2", "{x}"}, [2]string{"1 2", "(`a`b!1 2)"}, [2]string{"1 2", "([]a:1 2)"}, [2]string{"1 2", "0 0"}, [2]string{"(1 2;3 4)", "`a`b"}, [2]string{"5", ",0"}, [2]string{"(`a`b!(1 2;3 4))", "`b`a"})
	noDyads(t, ".", api.ErrColumn, [2]string{"([]a:1 2)", ",`z"})
}

// TestIn: P16.3: in.
func TestIn(t *testing.T) {
	dyads(t, "in",
		[3]string{"2", "1 2", "1b"}, [3]string{"3", "1 2", "0b"}, [3]string{"1 5 2", "1 2", "101b"}, [3]string{"()i", "1 2", "()b"}, [3]string{"1 2", "()i", "00b"}, [3]string{"`a", "`b`a", "1b"}, [3]string{"`a`c", "`b`a", "10b"}, [3]string{"1 2", "1.0 2.0", "00b"}, [3]string{"1.0", "1 2", "0b"}, [3]string{"0N", "1 0N", "1b"}, [3]string{",1", "1 2", ",1b"},
		[3]string{"1 2", "(1 2;3)", "1b"}, [3]string{"1 2", "(1;2;`a)", "0b"}, [3]string{"1", "(1;2;`a)", "1b"}, [3]string{"(1;`a)", "1 2", "0b"}, [3]string{"(1;`a)", "(1;`a)", "0b"}, [3]string{"(1;`a)", ",(1;`a)", "1b"}, [3]string{"()", "()", "0b"}, [3]string{"()", ",()", "1b"}, [3]string{"{x}", "({x};1)", "1b"}, [3]string{"::", "1 2", "0b"}, [3]string{"([]a:1 2)", ",([]a:1 2)", "1b"}, [3]string{"(`a`b!1 2)", "1 2", "0b"},
	)
	noDyads(t, "in", api.ErrType, [2]string{"1", "1"}, [2]string{"1 2", "1"}, [2]string{"1", "(`a`b!1 2)"}, [2]string{"1", "([]a:1 2)"}, [2]string{"1", keyedText}, [2]string{"1", "{x}"}, [2]string{"1", "::"}, [2]string{"()", "::"})
}

// TestWithin: P16.3: within.
func TestWithin(t *testing.T) {
	dyads(t, "within",
		[3]string{"1 2 4 6 7", "2 6", "01110b"}, [3]string{"5", "2 6", "1b"}, [3]string{"1", "2 6", "0b"}, [3]string{"5", "6 2", "0b"}, [3]string{"`b", "`a`c", "1b"}, [3]string{"2.5 6.5", "2 6", "10b"}, [3]string{"5", "4.5 5.5", "1b"}, [3]string{"0N 5", "0N 5", "11b"}, [3]string{"0N", "0 5", "0b"}, [3]string{"5t", "5t 6t", "1b"}, [3]string{"1b", "01b", "1b"}, [3]string{"()i", "2 6", "()b"},
		[3]string{"(1;5 7;2.5)", "2 6", "(0b;10b;1b)"}, [3]string{"(1;2.5)", "2 6", "01b"}, [3]string{"()", "`a`b", "()"}, [3]string{"(`a`b!1 5)", "2 6", "(`a`b!01b)"}, [3]string{"([]a:1 5;b:2.0 1.0)", "2 6", "([]a:01b;b:10b)"}, [3]string{keyedText, "2 6", "(([]a:`x`y)!([]b:01b))"},
	)
	noDyads(t, "within", api.ErrType, [2]string{"1", "1"}, [2]string{"1", "(1;`a)"}, [2]string{"1", "()"}, [2]string{"1", "(1 2;3 4)"}, [2]string{"1", "(`a`b!1 2)"}, [2]string{"1", "([]a:1 2)"}, [2]string{"1", "::"}, [2]string{"`a", "1 2"}, [2]string{"1", "`a`b"}, [2]string{"{x}", "1 2"}, [2]string{"::", "1 2"}, [2]string{"(1;`a)", "1 2"}, [2]string{"5t", "1 2"})
	noDyads(t, "within", api.ErrLength, [2]string{"1", ",1"}, [2]string{"1", "1 2 3"}, [2]string{"1", "()i"}, [2]string{"`a", "1 2 3"}, [2]string{"::", ",1"})
}

// TestSortRows: P16.3: xasc, xdesc.
func TestSortRows(t *testing.T) {
	dyads(t, "xasc", [3]string{"`b", "([]a:1 2;b:`y`x)", "([]a:2 1;b:`x`y)"}, [3]string{"`a`b", "([]a:2 1 2;b:2 9 1)", "([]a:1 2 2;b:9 1 2)"}, [3]string{"`a", "([]a:2 1 2;b:1 2 3)", "([]a:1 2 2;b:2 1 3)"}, [3]string{"()s", "([]a:2 1)", "([]a:2 1)"}, [3]string{"`a`a", "([]a:2 1)", "([]a:1 2)"}, [3]string{"`a", "([]a:()i)", "([]a:()i)"})
	dyads(t, "xdesc", [3]string{"`a", "([]a:1 2 2;b:1 2 3)", "([]a:2 2 1;b:2 3 1)"}, [3]string{"`a`b", "([]a:2 1 2;b:2 9 1;c:1 2 3)", "([]a:2 2 1;b:2 1 9;c:1 3 2)"}, [3]string{"`a", "([]a:1 0N 2)", "([]a:2 1 0N)"}, [3]string{"()s", "([]a:1 2)", "([]a:1 2)"}, [3]string{"`a", "([]a:(1;`x;1;`x);b:1 2 3 4)", "([]a:(`x;`x;1;1);b:2 4 1 3)"}, [3]string{"`b", "([]b:()s)", "([]b:()s)"})
	for _, name := range []string{"xasc", "xdesc"} {
		noDyads(t, name, api.ErrColumn, [2]string{"`z", "([]a:1 2)"}, [2]string{"`a`z", "([]a:1 2)"}, [2]string{"`", "([]a:1 2)"})
		noDyads(t, name, api.ErrType, [2]string{"`a", "1 2"}, [2]string{"`a", "(`a`b!1 2)"}, [2]string{"`a", keyedText}, [2]string{"`a", "::"}, [2]string{"1", "([]a:1 2)"}, [2]string{"()", "([]a:1 2)"}, [2]string{"(`a;1)", "([]a:1 2)"}, [2]string{"{x}", "([]a:1 2)"}, [2]string{"1", "1"})
	}
}

// TestKeyBy: P16.3: xkey.
func TestKeyBy(t *testing.T) {
	dyads(t, "xkey", [3]string{"`b", "([]a:1 2;b:3 4)", "(([]b:3 4)!([]a:1 2))"}, [3]string{"`c`a", "([]a:1 2;b:3 4;c:5 6)", "(([]c:5 6;a:1 2)!([]b:3 4))"}, [3]string{",`a", "([]a:()i;b:())", bareText})
	noDyads(t, "xkey", api.ErrType, [2]string{"`a", "1 2"}, [2]string{"`a", keyedText}, [2]string{"`a", "(`a`b!1 2)"}, [2]string{"1", "([]a:1 2;b:3 4)"}, [2]string{"()", "([]a:1 2;b:3 4)"}, [2]string{"`a", "::"}, [2]string{"{x}", "([]a:1 2;b:3 4)"})
	noDyads(t, "xkey", api.ErrColumn, [2]string{"`z", "([]a:1 2;b:3 4)"}, [2]string{"`a", "([]a:1 2)"}, [2]string{"()s", "([]a:1 2)"})
	noDyads(t, "xkey", api.ErrSchema, [2]string{"`a`a", "([]a:1 2;b:3 4)"})
	noDyads(t, "xkey", api.ErrKey, [2]string{"`a", "([]a:1 1;b:3 4)"})
}

// TestSets: P16.3: union, except, inter.
func TestSets(t *testing.T) {
	for _, row := range [][5]string{
		{"1 2 1", "2 3 3", "1 2 3", "1 1", ",2"}, {"1 2 1", "()i", "1 2", "1 2 1", "()i"}, {"()s", "`a`a", ",`a", "()s", "()s"}, {"()", "()", "()", "()", "()"}, {"1 2 2", "(2;`a)", "(1;2;`a)", ",1", "2 2"}, {"(1;`a;2)", "`a`b", "(1;`a;2;`b)", "1 2", ",`a"}, {"(1 2;`a;1 2)", ",1 2", "(1 2;`a)", ",`a", "(1 2;1 2)"}, {"1 2", "1.0 2.0", "(1;2;1.0;2.0)", "1 2", "()i"}, {"()", "1 2", "1 2", "()", "()"}, {"(1;`a)", "(1;`a)", "(1;`a)", "()", "(1;`a)"}, {"1 0N", ",0N", "1 0N", ",1", ",0N"}, {"()i", "()i", "()i", "()i", "()i"}, {"()i", "()", "()", "()i", "()i"},
	} {
		for i, name := range []string{"union", "except", "inter"} {
			dyads(t, name, [3]string{row[0], row[1], row[2+i]})
		}
	}
	for _, name := range []string{"union", "except", "inter"} {
		noDyads(t, name, api.ErrType, [2]string{"1", "1 2"}, [2]string{"1 2", "1"}, [2]string{"`a", "`a"}, [2]string{"1 2", "(`a`b!1 2)"}, [2]string{"(`a`b!1 2)", "1 2"}, [2]string{"([]a:1 2)", "([]a:1 2)"}, [2]string{keyedText, "()"}, [2]string{"()", "{x}"}, [2]string{"::", "()"}, [2]string{"()", "::"})
	}
}

// TestCut: P16.3: cut.
func TestCut(t *testing.T) {
	dyads(t, "cut",
		[3]string{"2", "1 2 3", "(1 2;,3)"}, [3]string{"3", "1 2 3", ",1 2 3"}, [3]string{"9", "1 2 3", ",1 2 3"}, [3]string{"9223372036854775807", "1 2 3", ",1 2 3"}, [3]string{"1", "1 2", "(,1;,2)"}, [3]string{"2", "()i", "()"}, [3]string{"2", "()", "()"}, [3]string{"2", "(1;2;`a)", "(1 2;,`a)"}, [3]string{"2", "`a`b`c`d", "(`a`b;`c`d)"},
		[3]string{"0 2", "1 2 3", "(1 2;,3)"}, [3]string{",0", "1 2 3", ",1 2 3"}, [3]string{",1", "1 2 3", ",2 3"}, [3]string{"1 1 3", "1 2 3", "(()i;2 3;()i)"}, [3]string{"()i", "1 2 3", "()"}, [3]string{"()i", "()", "()"}, [3]string{",0", "()s", ",()s"}, [3]string{"0 0", "()", "(();())"}, [3]string{"0 1 3", "(1 2;3;4;`a)", "(,1 2;3 4;,`a)"}, [3]string{"3 3", "1 2 3", "(()i;()i)"},
	)
	noDyads(t, "cut", api.ErrType, [2]string{"2", "5"}, [2]string{"-1", "5"}, [2]string{"2 1", "5"}, [2]string{"0", "(`a`b!1 2)"}, [2]string{"2", "([]a:1 2)"}, [2]string{"2", keyedText}, [2]string{"2", "{x}"}, [2]string{"2", "::"}, [2]string{"1b", "1 2"}, [2]string{"01b", "1 2"}, [2]string{"2t", "1 2"}, [2]string{"`a", "1 2"}, [2]string{"()", "1 2"}, [2]string{"(1;`a)", "1 2"}, [2]string{"()s", "1 2"}, [2]string{"::", "1 2"}, [2]string{"1.0", "1 2"})
	noDyads(t, "cut", api.ErrArg, [2]string{"0", "1 2 3"}, [2]string{"-2", "1 2 3"}, [2]string{"0N", "1 2 3"}, [2]string{"0", "()"}, [2]string{"2 1", "1 2 3"}, [2]string{"-1 1", "1 2 3"}, [2]string{"0 4", "1 2 3"}, [2]string{",4", "1 2 3"}, [2]string{"0N 1", "1 2 3"}, [2]string{"1 0N", "1 2 3"}, [2]string{",1", "()"}, [2]string{"0 1 0 2", "1 2 3"})
}

// TestBin: P16.3: bin.
func TestBin(t *testing.T) {
	dyads(t, "bin",
		[3]string{"1 3 5", "4", "1"}, [3]string{"1 3 5", "5", "2"}, [3]string{"1 3 5", "0", "-1"}, [3]string{"1 3 5", "9", "2"}, [3]string{"1 3 5", "0N", "-1"}, [3]string{"0N 3", "0N", "0"}, [3]string{"1 3 3 5", "3", "2"}, [3]string{"1 3 5", "0 1 4 9", "-1 0 1 2"}, [3]string{"1 3 5", ",4", ",1"}, [3]string{"1 3 5", "()i", "()i"}, [3]string{"()i", "1", "-1"}, [3]string{"()i", "1 2", "-1 -1"}, [3]string{"`b`d", "`a`c`z", "-1 0 1"}, [3]string{"1.5 2.5", "2.0", "0"}, [3]string{"1t 2t", "5t", "1"}, [3]string{"01b", "0b", "0"}, [3]string{"01b", "10b", "1 0"}, [3]string{"()s", "`a", "-1"},
		[3]string{"5 1 7 3 9", "3", "3"}, [3]string{"5 1 7 3 9", "6 1 0 9 2", "3 1 -1 4 1"}, [3]string{"3 1", "2", "1"}, [3]string{"1 9 1", "1", "2"},
	)
	noDyads(t, "bin", api.ErrType, [2]string{"1", "1"}, [2]string{"()", "1"}, [2]string{"(1;`a)", "1"}, [2]string{"()", "()"}, [2]string{"(1;`a)", "(1;`a)"}, [2]string{"1 2", "1.5"}, [2]string{"1 2", "1b"}, [2]string{"1 2", "`a"}, [2]string{"1 2", "()"}, [2]string{"1 2", "(1;2.5)"}, [2]string{"1 2", "1.0 2.0"}, [2]string{"1 2", "()d"}, [2]string{"()i", "()s"}, [2]string{"(`a`b!1 2)", "1"}, [2]string{"([]a:1 2)", "1"}, [2]string{"1 2", "{x}"}, [2]string{"1 2", "::"}, [2]string{"::", "1"})
}

// TestAt: P16.3: @ is Index.
func TestAt(t *testing.T) {
	for _, s := range kinds() {
		for _, r := range kinds() {
			want, e := verbs.Index(read(t, s), read(t, r))
			wantDyad(t, "@", read(t, s), read(t, r), want, e)
		}
	}
}
