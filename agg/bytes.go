package agg

import (
	"streamwright/api"
	"streamwright/value"
	"streamwright/wire"
)

// written gives parts as bytes, those of a row for each.
func written(parts []api.Timed) []byte {
	var rows []api.Row
	for _, part := range parts {
		// A part's time may be one that no row can have: it stands among the values.
		rows = append(rows, api.Row{Values: []api.Value{value.Of(part.Time), part.Value}})
	}
	return wire.PutRows(nil, rows)
}

// read gives the parts of which written gave the bytes.
func read(b []byte) ([]api.Timed, error) {
	rows, err := wire.Rows(b)
	if err != nil {
		return nil, err
	}
	var parts []api.Timed
	for _, row := range rows {
		parts = append(parts, api.Timed{Time: row.Values[0].Int, Value: row.Values[1]})
	}
	return parts, nil
}
