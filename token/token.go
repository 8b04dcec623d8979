// Package token cuts texts into tokens: see E1 of doc/03-expr.md.
package token

import "strings"

// Kinds of tokens.
const (
	End = iota // what stands behind the last one
	Word
	Number
	Text
	Sign
)

// Token is a piece of a text that begins at a place.
type Token struct {
	At   int
	Kind int
	Text string
}

// Cut gives the tokens of a text, with the end as the last one; false: at the
// place that is told begins none.
func Cut(text string) ([]Token, int, bool) {
	var list []Token
	for at := 0; at < len(text); {
		if isSpace(text[at]) {
			at++
			continue
		}
		kind, n := begins(text[at:])
		if n == 0 {
			return nil, at, false
		}
		list = append(list, Token{at, kind, text[at : at+n]})
		at += n
	}
	return append(list, Token{len(text), End, ""}), 0, true
}

// begins tells the kind of the token with which a text begins, and how long
// it is; 0: there is none.
func begins(s string) (int, int) {
	switch {
	case isDigit(s[0]):
		return Number, wordLen(s)
	case isWordByte(s[0]):
		return Word, wordLen(s)
	case s[0] == '\'':
		if end := strings.IndexByte(s[1:], '\''); end >= 0 {
			return Text, end + 2
		}
		return Text, 0
	}
	return Sign, signLen(s)
}

// signLen tells how long the sign is with which a text begins; 0: there is none.
func signLen(s string) int {
	if len(s) > 1 {
		switch s[:2] {
		case "<>", "<=", ">=", "++":
			return 2
		}
	}
	if strings.IndexByte("=<>+-*/%(),", s[0]) >= 0 {
		return 1
	}
	return 0
}

// wordLen tells how many bytes of a word a text begins with.
func wordLen(s string) int {
	n := 0
	for n < len(s) && isWordByte(s[n]) {
		n++
	}
	return n
}

// IsWord tells whether a text is one word.
func IsWord(s string) bool {
	return s != "" && !isDigit(s[0]) && wordLen(s) == len(s)
}

func isSpace(c byte) bool { return c == ' ' || c == '\t' || c == '\n' }

func isDigit(c byte) bool { return c >= '0' && c <= '9' }

func isWordByte(c byte) bool {
	return c >= 'a' && c <= 'z' || c >= 'A' && c <= 'Z' || isDigit(c) || c == '_'
}
