package lex

import (
	"strings"

	"quiver/text"
)

// reader goes along the bytes of a text.
type reader struct {
	s  string
	at int
}

func (r *reader) ended() bool { return r.at == len(r.s) }

// here is the byte at which the reader stands.
func (r *reader) here() byte { return r.peek(0) }

// peek is the byte so many places on; 0 behind the end, for no token begins with it, and none but a quoted text goes on with it.
func (r *reader) peek(on int) byte {
	if r.at+on < len(r.s) {
		return r.s[r.at+on]
	}
	return 0
}

func (r *reader) blanks() {
	for r.here() == ' ' {
		r.at++
	}
}

// ahead is the byte that stands here, and those behind it, as far as more says of them that they belong to it.
func (r *reader) ahead(more func(c byte) bool) string {
	end := r.at + 1
	for end < len(r.s) && more(r.s[end]) {
		end++
	}
	return r.s[r.at:end]
}

// take goes behind what is ahead, and tells it.
func (r *reader) take(more func(c byte) bool) string {
	s := r.ahead(more)
	r.at += len(s)
	return s
}

// quoted reads the quoted text that begins here, and tells what it says; if it is none, the reader stays.
func (r *reader) quoted() (string, bool) {
	open := true
	q := r.ahead(func(c byte) bool {
		was := open
		open = c != '"'
		return was
	})
	s, ok := text.Unquote(q)
	if ok {
		r.at += len(q)
	}
	return s, ok
}

// alnumOr says of letters and digits, and of some bytes more, that they go on.
func alnumOr(others string) func(c byte) bool {
	return func(c byte) bool {
		return isLetter(c) || isDigit(c) || strings.IndexByte(others, c) >= 0
	}
}

func isLetter(c byte) bool {
	return c >= 'a' && c <= 'z' || c >= 'A' && c <= 'Z'
}

func isDigit(c byte) bool {
	return c >= '0' && c <= '9'
}
