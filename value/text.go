package value

import (
	"strconv"
	"strings"

	"streamwright/api"
)

// Show writes a value.
func Show(v api.Value) string {
	if !Valid(v) {
		return ""
	}
	switch v.Kind {
	case api.Int:
		return strconv.FormatInt(v.Int, 10)
	case api.Bool:
		return strconv.FormatBool(v.Int == 1)
	case api.Text:
		return quoted(v.Text)
	}
	return "null"
}

// Read reads a value that Show writes.
func Read(s string) (api.Value, error) {
	v := guess(s)
	// Show has one text for a value: whatever guess let pass is caught here.
	if Show(v) != s {
		return api.Value{}, api.ErrSyntax
	}
	return v, nil
}

// guess gives the only value of which a text can be what Show writes.
func guess(s string) api.Value {
	if inner, ok := strings.CutPrefix(s, "'"); ok {
		return Words(unescaped(strings.TrimSuffix(inner, "'")))
	}
	if s == "true" || s == "false" {
		return Truth(s == "true")
	}
	if n, err := strconv.ParseInt(s, 10, 64); err == nil {
		return Of(n)
	}
	return api.Value{}
}

const hexDigits = "0123456789abcdef"

// quoted writes a text between quotes.
func quoted(s string) string {
	b := []byte{'\''}
	for i := range len(s) {
		if c := s[i]; bare(c) {
			b = append(b, c)
		} else {
			b = append(b, '\\', hexDigits[c>>4], hexDigits[c&15])
		}
	}
	return string(append(b, '\''))
}

// bare tells whether a byte stands between quotes as it is.
func bare(c byte) bool {
	return c >= 32 && c <= 126 && c != '\'' && c != '\\'
}

// unescaped turns what quoted writes for a byte into the byte; what is none
// of that stays.
func unescaped(s string) string {
	var b []byte
	for i := 0; i < len(s); i++ {
		c := s[i]
		if c == '\\' && i+2 < len(s) {
			if n, err := strconv.ParseUint(s[i+1:i+3], 16, 8); err == nil {
				c = byte(n)
				i += 2
			}
		}
		b = append(b, c)
	}
	return string(b)
}
