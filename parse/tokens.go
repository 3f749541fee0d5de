package parse

import (
	"strings"

	"quiver/api"
)

// tokens goes along the tokens of a text.
type tokens struct {
	s   string
	l   []api.Token
	at  int
	end int // the place behind all of them
}

// here is the token that stands here; behind the last one a token of no kind.
func (t *tokens) here() api.Token { return t.peek(0) }

func (t *tokens) peek(on int) api.Token {
	if t.at+on < len(t.l) {
		return t.l[t.at+on]
	}
	return api.Token{At: t.end, End: t.end}
}

// take goes behind the token that stands here, and tells it.
func (t *tokens) take() api.Token {
	x := t.here()
	t.at = min(t.at+1, len(t.l))
	return x
}

func (t *tokens) is(kind int) bool { return t.here().Kind == kind }

// marked tells whether that mark stands here.
func (t *tokens) marked(mark string) bool { return isMark(t.here(), mark) }

// took goes behind that mark, if it stands here.
func (t *tokens) took(mark string) bool {
	is := t.marked(mark)
	if is {
		t.take()
	}
	return is
}

// isVerb tells whether a verb stands here, or a word that stands as one.
func (t *tokens) isVerb() bool {
	return t.is(api.TokenVerb) || t.is(api.TokenName) && isInfix(t.here().Text)
}

func (t *tokens) isName() bool {
	return t.is(api.TokenName) && !isInfix(t.here().Text)
}

// beginsTerm tells whether a term, or what stands for the last one, begins here.
func (t *tokens) beginsTerm() bool {
	return t.is(api.TokenValue) || t.is(api.TokenName) || t.is(api.TokenVerb) || t.marked("(") || t.marked("{")
}

// beginsAssign tells whether a name stands here that has a value assigned.
func (t *tokens) beginsAssign() bool {
	return t.isName() && isMark(t.peek(1), ":")
}

// cut is the text's bytes between two places: none, if tokens of another text have told these places.
func (t *tokens) cut(begin, end int) string {
	if begin < 0 || begin > end || end > len(t.s) {
		return ""
	}
	return t.s[begin:end]
}

func isMark(t api.Token, mark string) bool {
	return t.Kind == api.TokenMark && t.Text == mark
}

// isInfix tells whether a word stands between two operands.
func isInfix(word string) bool {
	return strings.Contains(api.Infix, " "+word+" ")
}
