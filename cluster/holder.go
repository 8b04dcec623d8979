package cluster

import (
	"streamwright/api"
	"streamwright/table"
)

// holder holds the rows that come out of a sink's task until a mark comes,
// and lays them down in the table then.
type holder struct {
	sink   string
	number int // of the task within its node
	table  *table.Table
	rows   []api.Row
}

func (h *holder) put(e api.Elem) {
	switch e.Kind {
	case api.ElemRow:
		h.rows = append(h.rows, e.Row)
	case api.ElemMark:
		// A mark comes once, and a start settles what others have left of it:
		// this transaction is not prepared.
		_ = h.table.Prepare(h.tx(e.Mark), h.rows)
		h.rows = nil
	}
}

// tx gives the transaction of a mark.
func (h *holder) tx(mark int) table.Tx {
	return table.Tx{Mark: mark, Sink: h.sink, Task: h.number}
}
