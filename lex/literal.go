package lex

import (
	"strconv"
	"strings"

	"quiver/api"
)

// A text of MaxText bytes has no literal of more than MaxCount elements (symbols are a byte each at least), so that no vector is held against that limit.

// numbers reads a number, and all those behind it with blanks alone between: P14.1.
func (x *lexer) numbers() (api.Token, api.Errno) {
	var v api.V
	end := x.at
	for x.numberBegins() {
		run := x.ahead(alnumOr("_."))
		t, n, ok := number(run)
		if !ok {
			return api.Token{}, api.ErrNumber
		}
		if v.N != nil && t != v.T {
			return api.Token{}, api.ErrMixed
		}
		v.T, v.N = t, append(v.N, n)
		x.at += len(run)
		end = x.at
		x.blanks()
	}
	x.at = end
	return x.literal(v, len(v.N)), api.OK
}

// literal is a token that is worth a vector of so many elements: of one it is the atom.
func (x *lexer) literal(v api.V, count int) api.Token {
	if count == 1 {
		v.T = -v.T
	}
	return x.cut(api.TokenValue, v)
}

// numberBegins tells whether a number begins here, good or bad: at a digit that is none of bools', or at its sign.
func (x *lexer) numberBegins() bool {
	if x.here() == '-' {
		return isDigit(x.peek(1)) && x.mayBeSigned()
	}
	return isDigit(x.here()) && !areBools(x.ahead(alnumOr("_.")))
}

// mayBeSigned tells whether a - here, ahead of a digit, is a number's sign, and no verb.
func (x *lexer) mayBeSigned() bool {
	if x.at == 0 || x.s[x.at-1] == ' ' {
		return true
	}
	// Within a vector what is directly ahead is a number, and no token yet.
	n := len(x.tokens)
	return n > 0 && x.tokens[n-1].End == x.at && awaitsOperand(x.tokens[n-1])
}

func awaitsOperand(t api.Token) bool {
	switch t.Kind {
	case api.TokenVerb, api.TokenAdverb:
		return true
	case api.TokenMark:
		return !strings.Contains(")]}", t.Text)
	}
	return false
}

// number is the type and the worth of a number, from its sign or first digit on: P14.1.
func number(s string) (int, int64, bool) {
	switch s {
	case "0N":
		return api.KInt, api.Null, true
	case "0Nt":
		return api.KTime, api.Null, true
	case "0Nd":
		return api.KDec, api.Null, true
	}
	digits, minus := strings.CutPrefix(s, "-")
	t, digits := plain(digits)
	n, err := strconv.ParseUint(digits, 10, 63)
	if err != nil {
		return 0, 0, false
	}
	if minus {
		return t, -int64(n), true
	}
	return t, int64(n), true
}

// zeros are as many as a dec has digits behind its point.
const zeros = "0000"

// plain is the type of a number without a sign, and the digits of its worth; of what is no number something that is not digits alone.
func plain(s string) (int, string) {
	if above, below, ok := strings.Cut(s, "."); ok {
		if below == "" || len(below) > len(zeros) {
			return api.KDec, ""
		}
		return api.KDec, above + below + zeros[len(below):]
	}
	if digits, ok := strings.CutSuffix(s, "t"); ok {
		return api.KTime, digits
	}
	return api.KInt, s
}

// bools reads digits and the b behind them: P14.2.
func (x *lexer) bools() api.Token {
	digits := strings.TrimSuffix(x.take(alnumOr("_.")), "b")
	v := api.V{T: api.KBool, N: make([]int64, len(digits))}
	for i := range len(digits) {
		v.N[i] = int64(digits[i] - '0')
	}
	return x.literal(v, len(digits))
}

// areBools tells whether what begins with a digit, as far as letters, digits, _ and points go, is bools.
func areBools(run string) bool {
	digits, ok := strings.CutSuffix(run, "b")
	return ok && strings.Trim(digits, "01") == ""
}

// symbols reads symbols that stand directly one behind the other: P14.3.
func (x *lexer) symbols() (api.Token, api.Errno) {
	v := api.V{T: api.KSym}
	for x.here() == '`' {
		s, e := x.symbol()
		if e != api.OK {
			return api.Token{}, e
		}
		v.S = append(v.S, s)
	}
	return x.literal(v, len(v.S)), api.OK
}

func (x *lexer) symbol() (string, api.Errno) {
	backquote := x.at
	x.at++
	s, ok := x.symbolName()
	if !ok {
		return "", api.ErrString
	}
	if len(s) > api.MaxSym {
		x.at = backquote
		return "", api.ErrLong
	}
	if strings.IndexByte(s, 0) >= 0 {
		x.at = backquote
		return "", api.ErrLex
	}
	return s, api.OK
}

// symbolName reads what stands behind a backquote: false of a quotation mark with which no quoted text begins.
func (x *lexer) symbolName() (string, bool) {
	switch c := x.here(); {
	case c == '"':
		return x.quoted()
	case isLetter(c):
		return x.take(alnumOr("_.")), true
	}
	return "", true
}

// emptyType is the type of the empty vector that begins here: KList, if none does.
func (x *lexer) emptyType() int {
	if !strings.HasPrefix(x.s[x.at:], "()") || alnumOr("_")(x.peek(3)) {
		return api.KList
	}
	switch x.peek(2) {
	case 'b':
		return api.KBool
	case 'i':
		return api.KInt
	case 's':
		return api.KSym
	case 't':
		return api.KTime
	case 'd':
		return api.KDec
	}
	return api.KList
}
