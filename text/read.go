package text

import (
	"strconv"
	"strings"

	"quiver/api"
	"quiver/value"
)

// Read is the value whose text s is: P4.5. The reader may take more than Print prints, so what it read is held against Print.
func Read(s string) (api.V, api.Errno) {
	if len(s) > api.MaxText {
		return api.V{}, api.ErrLong
	}
	r := reader{pieces: pieces{s: s}}
	v, ok := r.value()
	if !ok {
		return api.V{}, api.ErrText
	}
	if printed, e := Print(v); e != api.OK || printed != s {
		return api.V{}, api.ErrText
	}
	return v, api.OK
}

// pieces goes through a text, piece by piece.
type pieces struct {
	s  string
	at int
}

func (p *pieces) rest() string { return p.s[p.at:] }

// next tells whether that is what stands here.
func (p *pieces) next(s string) bool { return strings.HasPrefix(p.rest(), s) }

// take goes behind that, if it is what stands here.
func (p *pieces) take(s string) bool {
	if !p.next(s) {
		return false
	}
	p.at += len(s)
	return true
}

// cut goes so many bytes ahead, and tells them.
func (p *pieces) cut(size int) string {
	begin := p.at
	p.at += size
	return p.s[begin:p.at]
}

// word cuts off as many bytes as are plain, or among the others.
func (p *pieces) word(others string) string {
	rest := p.rest()
	size := 0
	for size < len(rest) && (isPlain(rest[size]) || strings.IndexByte(others, rest[size]) >= 0) {
		size++
	}
	return p.cut(size)
}

// name reads a symbol, or the name of a column: it is quoted, or plain. (A quotation mark that none closes is cut off alone: no text's Quote.)
func (p *pieces) name() (string, bool) {
	if !p.next(`"`) {
		return p.word(""), true
	}
	size := strings.IndexByte(p.rest()[1:], '"')
	return Unquote(p.cut(size + 2))
}

// source cuts off the source of a lambda.
func (p *pieces) source() (string, bool) {
	size := braced(p.rest())
	return p.cut(size), size > 0
}

// zeros are as many as a dec has digits behind its point.
const zeros = "0000"

// number is the element of a vector that a word stands for, with its type.
func number(word string) (int, int64, bool) {
	switch word {
	case "0N":
		return api.KInt, api.Null, true
	case "0Nt":
		return api.KTime, api.Null, true
	case "0Nd":
		return api.KDec, api.Null, true
	}
	t := api.KInt
	digits, isTime := strings.CutSuffix(word, "t")
	above, below, isDec := strings.Cut(digits, ".")
	switch {
	case isTime:
		t = api.KTime
	case isDec && len(below) <= len(zeros):
		t, digits = api.KDec, above+below+zeros[len(below):]
	}
	n, err := strconv.ParseInt(digits, 10, 64)
	return t, n, err == nil
}

// bools are what the digits say, one each.
func bools(digits string) api.V {
	v := api.V{T: api.KBool}
	for i := range len(digits) {
		v.N = append(v.N, int64(digits[i])-'0')
	}
	return alone(v)
}

// alone is the atom that is all the vector has, or the vector.
func alone(v api.V) api.V {
	if value.Count(v) == 1 {
		v.T = -v.T
	}
	return v
}

// reader reads values: depth is how many of them are open, in one another.
type reader struct {
	pieces
	depth int
}

// value reads the value that begins here. An atom in a list of one is a vector, so one more may be open than a value is deep.
func (r *reader) value() (api.V, bool) {
	r.depth++
	defer func() { r.depth-- }()
	switch {
	case r.depth > api.MaxDepth+1:
		return api.V{}, false
	case r.take("::"):
		return value.Nil(), true
	case r.take(","):
		v, ok := r.value()
		return value.Of(v), ok
	case r.take("([]"):
		return r.table()
	case r.take("()"):
		return r.empty(), true
	case r.take("("):
		return r.parts()
	case r.next("{"):
		source, ok := r.source()
		return api.V{T: api.KLambda, S: []string{source}}, ok
	case r.next("`"):
		return r.symbols()
	}
	return r.numbers()
}

// empty is the vector without elements that the letter behind the brackets tells; the list, if there is none.
func (r *reader) empty() api.V {
	for i := range len(letters) {
		if r.take(letters[i : i+1]) {
			return value.Empty(api.KBool + i)
		}
	}
	return value.Empty(api.KList)
}

// parts reads the dictionary, or the list of several, whose bracket is open.
func (r *reader) parts() (api.V, bool) {
	v, ok := r.value()
	if !ok {
		return api.V{}, false
	}
	l := []api.V{v}
	if r.take("!") {
		v, ok = r.value()
		return api.V{T: api.KDict, L: append(l, v)}, ok && r.take(")")
	}
	for r.take(";") {
		if v, ok = r.value(); !ok {
			return api.V{}, false
		}
		l = append(l, v)
	}
	return api.V{T: api.KList, L: l}, r.take(")")
}

// table reads the table whose bracket is open.
func (r *reader) table() (api.V, bool) {
	v := api.V{T: api.KTable}
	for {
		name, ok := r.name()
		if !ok || !r.take(":") {
			return api.V{}, false
		}
		column, ok := r.value()
		if !ok {
			return api.V{}, false
		}
		v.S = append(v.S, name)
		v.L = append(v.L, column)
		if !r.take(";") {
			return v, r.take(")")
		}
	}
}

// symbols reads an atom, or a vector of several.
func (r *reader) symbols() (api.V, bool) {
	v := api.V{T: api.KSym}
	for r.take("`") {
		s, ok := r.name()
		if !ok {
			return api.V{}, false
		}
		v.S = append(v.S, s)
	}
	return alone(v), true
}

// numbers reads bools, or numbers with blanks between them: an atom, or a vector of several.
func (r *reader) numbers() (api.V, bool) {
	word := r.word("-")
	if digits, ok := strings.CutSuffix(word, "b"); ok {
		return bools(digits), true
	}
	var v api.V
	for {
		t, n, ok := number(word)
		if !ok || len(v.N) > 0 && t != v.T {
			return api.V{}, false
		}
		v.T = t
		v.N = append(v.N, n)
		if !r.take(" ") {
			return alone(v), true
		}
		word = r.word("-")
	}
}
