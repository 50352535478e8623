// Package sign is layer 1: see shared/doc/01-sign.md.
package sign

import (
	"strings"

	"pantry/api"
)

const (
	tokenMarks = "!#$%&'*+-.^_|`~"
	blanks     = " \t"
)

// Token tells whether a text is a token.
func Token(s string) bool {
	for i := 0; i < len(s); i++ {
		if !tokenSign(s[i]) {
			return false
		}
	}
	return s != ""
}

func tokenSign(c byte) bool {
	switch {
	case 'a' <= c && c <= 'z', great(c), digit(c):
		return true
	}
	return strings.IndexByte(tokenMarks, c) >= 0
}

func great(c byte) bool { return 'A' <= c && c <= 'Z' }

func digit(c byte) bool { return '0' <= c && c <= '9' }

// Lower turns great letters to small ones. It goes byte by byte, since the
// library's ToLower also changes letters beyond A to Z, and bytes that are no
// UTF-8.
func Lower(s string) string {
	b := []byte(s)
	for i, c := range b {
		if great(c) {
			b[i] = c + 'a' - 'A'
		}
	}
	return string(b)
}

// Same tells whether texts are the same but for great letters.
func Same(a string, b string) bool { return Lower(a) == Lower(b) }

// Trim leaves out blanks at both ends.
func Trim(s string) string { return strings.Trim(s, blanks) }

// List is a list's elements.
func List(s string) []string {
	var elements []string
	for start := 0; start < len(s); {
		end := elementEnd(s, start)
		if element := Trim(s[start:end]); element != "" {
			elements = append(elements, element)
		}
		start = end + 1
	}
	return elements
}

// elementEnd is where the element that begins at i ends: at a comma, or at
// the end of s.
func elementEnd(s string, i int) int {
	for i < len(s) && s[i] != ',' {
		if s[i] == '"' {
			i = quotesEnd(s, i+1)
		} else {
			i++
		}
	}
	return i
}

// quotesEnd is the place behind quotes, of which i is the first place inside;
// the end of s, if they aren't ended.
func quotesEnd(s string, i int) int {
	for i < len(s) {
		switch s[i] {
		case '"':
			return i + 1
		case '\\':
			i += 2
		default:
			i++
		}
	}
	// A last \ has led beyond the end.
	return len(s)
}

// Unquote is what a token, or a quoted text, says.
func Unquote(s string) (string, bool) {
	if Token(s) {
		return s, true
	}
	if s == "" || s[0] != '"' {
		return "", false
	}
	var said []byte
	for i := 1; i < len(s); i++ {
		switch s[i] {
		case '"':
			if i < len(s)-1 {
				return "", false
			}
			return string(said), true
		case '\\':
			i++
			if i == len(s) {
				return "", false
			}
		}
		said = append(said, s[i])
	}
	return "", false
}

// Number is a number of digits.
func Number(s string) (int, bool) {
	n := 0
	for i := 0; i < len(s); i++ {
		if !digit(s[i]) {
			return 0, false
		}
		// Held at Far with each digit, so that no count of them overflows.
		n = min(n*10+int(s[i]-'0'), api.Far)
	}
	return n, s != ""
}
