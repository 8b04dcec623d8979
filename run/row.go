package run

import (
	"strconv"
	"strings"

	"streamwright/api"
	"streamwright/value"
)

// Show writes a row.
func Show(r api.Row) string {
	var b strings.Builder
	b.WriteString(strconv.FormatInt(r.Time, 10))
	b.WriteByte(':')
	for i, v := range r.Values {
		if i > 0 {
			b.WriteByte(',')
		}
		b.WriteByte(' ')
		b.WriteString(value.Show(v))
	}
	return b.String()
}

// Row reads a row.
func Row(s string) (api.Row, error) {
	r, err := loose(s)
	// Signs that are missing, or too many, show here: the text comes out otherwise.
	if err != nil || !value.ValidRow(r) || Show(r) != s {
		return api.Row{}, api.ErrSyntax
	}
	return r, nil
}

// loose reads a row, and does not look at the signs between its values.
func loose(s string) (api.Row, error) {
	head, rest, _ := strings.Cut(s, ":")
	time, err := value.Read(head)
	if err != nil {
		return api.Row{}, err
	}
	r := api.Row{Time: time.Int}
	for rest != "" {
		word, behind := cutValue(rest[1:])
		v, err := value.Read(word)
		if err != nil {
			return api.Row{}, err
		}
		r.Values = append(r.Values, v)
		rest = behind
	}
	return r, nil
}

// cutValue cuts a value off that stands first, and the sign behind it.
func cutValue(s string) (word, rest string) {
	end := strings.IndexByte(s, ',')
	if strings.HasPrefix(s, "'") {
		// A quote within a text is never written as it is, but a comma is.
		end = strings.IndexByte(s[1:], '\'') + 2
	}
	if end < 0 || end >= len(s) {
		return s, ""
	}
	return s[:end], s[end+1:]
}
