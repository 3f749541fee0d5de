package text

import (
	"strconv"
	"strings"

	"quiver/api"
)

const hex = "0123456789abcdef"

// Number is the text of an element: P4.2.
func Number(t int, n int64) string {
	switch t {
	case api.KBool, -api.KBool:
		return strconv.FormatInt(n, 10) + "b"
	case api.KInt, -api.KInt:
		return whole(n)
	case api.KTime, -api.KTime:
		return whole(n) + "t"
	case api.KDec, -api.KDec:
		return decimal(n)
	}
	return ""
}

func whole(n int64) string {
	if n == api.Null {
		return "0N"
	}
	return strconv.FormatInt(n, 10)
}

func decimal(n int64) string {
	if n == api.Null {
		return "0Nd"
	}
	sign := ""
	if n < 0 {
		sign, n = "-", -n
	}
	// The leading digit keeps the zeros that stand behind the point.
	rest := strconv.FormatInt(api.Scale+n%api.Scale, 10)[1:]
	return sign + strconv.FormatInt(n/api.Scale, 10) + "." + rest[:1] + strings.TrimRight(rest[1:], "0")
}

// Quote is a text between quotation marks: P4.1.
func Quote(s string) string {
	b := make([]byte, 0, len(s)+2)
	b = append(b, '"')
	for i := range len(s) {
		if c := s[i]; standsForItself(c) {
			b = append(b, c)
		} else {
			b = append(b, '\\', 'x', hex[c>>4], hex[c&15])
		}
	}
	return string(append(b, '"'))
}

func standsForItself(c byte) bool {
	return c >= ' ' && c <= '~' && c != '"' && c != '\\'
}

// Unquote is the text whose Quote s is: P4.1. It may read more than Quote writes, and so holds what it read against Quote.
func Unquote(s string) (string, bool) {
	if len(s) < 2 {
		return "", false
	}
	inner := s[1 : len(s)-1]
	b := make([]byte, 0, len(inner))
	for i := 0; i < len(inner); i++ {
		c := inner[i]
		if c == '\\' && i+4 <= len(inner) {
			c = fromHex(inner[i+2])<<4 | fromHex(inner[i+3])
			i += 3
		}
		b = append(b, c)
	}
	if read := string(b); Quote(read) == s {
		return read, true
	}
	return "", false
}

// fromHex is what a digit stands for, and 0 of what is no digit.
func fromHex(c byte) byte {
	return byte(max(0, strings.IndexByte(hex, c)))
}

// Plain tells whether s stands in a text without quotation marks: P4.1.
func Plain(s string) bool {
	for i := range len(s) {
		if !isPlain(s[i]) {
			return false
		}
	}
	return s != "" && isLetter(s[0])
}

// isPlain tells whether c may be in a plain text.
func isPlain(c byte) bool {
	return isLetter(c) || c >= '0' && c <= '9' || c == '_' || c == '.'
}

func isLetter(c byte) bool {
	return c >= 'a' && c <= 'z' || c >= 'A' && c <= 'Z'
}

// Symbol is the text of a symbol: P4.1.
func Symbol(s string) string {
	if s == "" {
		return "`"
	}
	return "`" + name(s)
}

// name is how a symbol, or the name of a column, is written.
func name(s string) string {
	if Plain(s) {
		return s
	}
	return Quote(s)
}

// Balanced tells whether src is one pair of braces, with what is in it: P4.3.
func Balanced(src string) bool {
	return src != "" && braced(src) == len(src)
}

// braced is the place behind the } that closes the { with which s begins; 0, if there is none.
func braced(s string) int {
	if !strings.HasPrefix(s, "{") {
		return 0
	}
	open := 0
	for i := 0; i < len(s); i++ {
		switch s[i] {
		case '"':
			i = stringEnd(s, i)
		case '{':
			open++
		case '}':
			open--
		}
		if open == 0 {
			return i + 1
		}
	}
	return 0
}

// stringEnd is the place of the quotation mark that ends the string that begins at a place; the end of s, if there is none.
func stringEnd(s string, begin int) int {
	for i := begin + 1; i < len(s); i++ {
		switch s[i] {
		case '"':
			return i
		case '\\':
			i++
		}
	}
	return len(s)
}
