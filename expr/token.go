package expr

import (
	"strings"

	"streamwright/api"
)

// kinds of tokens.
const (
	endToken = iota // what stands behind the last one
	wordToken
	numberToken
	textToken
	signToken
)

// token is a piece of a text that begins at a place.
type token struct {
	at   int
	kind int
	text string
}

// tokens cuts a text, with the end as the last one; it throws what is none.
func tokens(text string) []token {
	var list []token
	for at := 0; at < len(text); {
		if isSpace(text[at]) {
			at++
			continue
		}
		t := tokenAt(text, at)
		list = append(list, t)
		at += len(t.text)
	}
	return append(list, token{len(text), endToken, ""})
}

// tokenAt gives the token that begins at a place.
func tokenAt(text string, at int) token {
	rest := text[at:]
	switch {
	case isDigit(rest[0]):
		return token{at, numberToken, rest[:wordLen(rest)]}
	case isWordByte(rest[0]):
		return token{at, wordToken, rest[:wordLen(rest)]}
	case rest[0] == '\'':
		if end := strings.IndexByte(rest[1:], '\''); end >= 0 {
			return token{at, textToken, rest[:end+2]}
		}
	case signLen(rest) > 0:
		return token{at, signToken, rest[:signLen(rest)]}
	}
	panic(fault{at, api.ErrSyntax})
}

// signLen tells how long the sign is with which a text begins; 0: there is none.
func signLen(s string) int {
	if len(s) > 1 {
		switch s[:2] {
		case "<>", "<=", ">=", "++":
			return 2
		}
	}
	if strings.IndexByte("=<>+-*/%(),", s[0]) >= 0 {
		return 1
	}
	return 0
}

// wordLen tells how many bytes of a word a text begins with.
func wordLen(s string) int {
	n := 0
	for n < len(s) && isWordByte(s[n]) {
		n++
	}
	return n
}

// isWord tells whether a text is one word.
func isWord(s string) bool {
	return s != "" && !isDigit(s[0]) && wordLen(s) == len(s)
}

func isSpace(c byte) bool { return c == ' ' || c == '\t' || c == '\n' }

func isDigit(c byte) bool { return c >= '0' && c <= '9' }

func isWordByte(c byte) bool {
	return c >= 'a' && c <= 'z' || c >= 'A' && c <= 'Z' || isDigit(c) || c == '_'
}

// reserved tells whether a word can be no name.
func reserved(word string) bool {
	switch word {
	case "and", "or", "not", "true", "false", "as":
		return true
	}
	return false
}
