package op

import (
	"slices"

	"streamwright/agg"
	"streamwright/api"
	"streamwright/expr"
	"streamwright/window"
)

// Out tells the columns of what comes out.
func Out(o api.Op) ([]api.Column, error) {
	if !expr.Columns(o.Columns) || !expr.Columns(o.Right) || !usesAll(o) {
		return nil, api.ErrRange
	}
	cols, err := comesOut(o)
	if err != nil {
		return nil, err
	}
	if len(cols) > api.MaxValues {
		return nil, api.ErrFull
	}
	if !expr.Columns(cols) {
		return nil, api.ErrName
	}
	return cols, nil
}

// usesAll tells whether there is such a Kind, and it uses all that is there.
func usesAll(o api.Op) bool {
	// What is used is taken away, and nothing may be left.
	switch o.Kind {
	case api.OpWhere:
		o.Exprs = nil
	case api.OpMap:
		o.Exprs, o.Names = nil, nil
	case api.OpWindow:
		o.Keys, o.Windows, o.Aggs, o.Names = nil, api.Windows{}, nil, nil
	case api.OpJoin:
		o.Right, o.Keys, o.Others, o.Windows, o.Outer = nil, nil, nil, api.Windows{}, false
	case api.OpUnion, api.OpSink:
	default:
		return false
	}
	lists := len(o.Exprs) + len(o.Names) + len(o.Right) + len(o.Keys) + len(o.Others) + len(o.Aggs)
	return lists == 0 && o.Windows == api.Windows{} && !o.Outer
}

// comesOut tells the columns by the Kind; whether they can be some is still
// to be asked.
func comesOut(o api.Op) ([]api.Column, error) {
	switch o.Kind {
	case api.OpWhere:
		return ofWhere(o)
	case api.OpMap:
		return ofMap(o)
	case api.OpWindow:
		return ofWindow(o)
	case api.OpJoin:
		return ofJoin(o)
	}
	return slices.Clone(o.Columns), nil
}

func ofWhere(o api.Op) ([]api.Column, error) {
	if len(o.Exprs) != 1 {
		return nil, api.ErrRange
	}
	kind, _, err := expr.Check(o.Exprs[0], o.Columns)
	if err != nil {
		return nil, err
	}
	if kind != api.Bool {
		return nil, api.ErrType
	}
	return slices.Clone(o.Columns), nil
}

func ofMap(o api.Op) ([]api.Column, error) {
	if len(o.Names) != len(o.Exprs) {
		return nil, api.ErrRange
	}
	var cols []api.Column
	for i, text := range o.Exprs {
		kind, _, err := expr.Check(text, o.Columns)
		if err != nil {
			return nil, err
		}
		cols = append(cols, api.Column{Name: o.Names[i], Kind: kind})
	}
	return cols, nil
}

func ofWindow(o api.Op) ([]api.Column, error) {
	if !places(o.Keys, o.Columns) || !window.Valid(o.Windows) || len(o.Names) != len(o.Aggs) {
		return nil, api.ErrRange
	}
	var cols []api.Column
	for _, at := range o.Keys {
		cols = append(cols, o.Columns[at])
	}
	for i, one := range o.Aggs {
		kind, err := foldedKind(one, o.Columns)
		if err != nil {
			return nil, err
		}
		cols = append(cols, api.Column{Name: o.Names[i], Kind: kind})
	}
	return cols, nil
}

// foldedKind tells the kind of what a column's values come to.
func foldedKind(one api.Agg, cols []api.Column) (api.Kind, error) {
	if !agg.Valid(one.Kind) {
		return 0, api.ErrRange
	}
	if one.Kind == api.Count {
		if one.At != -1 {
			return 0, api.ErrRange
		}
		return api.Int, nil
	}
	if !place(one.At, cols) {
		return 0, api.ErrRange
	}
	switch kind := cols[one.At].Kind; one.Kind {
	case api.Sum:
		if kind != api.Int {
			return 0, api.ErrType
		}
		return api.Int, nil
	case api.Distinct:
		return api.Int, nil
	default:
		return kind, nil
	}
}

func ofJoin(o api.Op) ([]api.Column, error) {
	if !places(o.Keys, o.Columns) || !places(o.Others, o.Right) || len(o.Keys) != len(o.Others) || !window.Valid(o.Windows) {
		return nil, api.ErrRange
	}
	for i, at := range o.Keys {
		if o.Columns[at].Kind != o.Right[o.Others[i]].Kind {
			return nil, api.ErrType
		}
	}
	return slices.Concat(o.Columns, o.Right), nil
}

// places tells whether all numbers are places of columns, and not too many.
func places(l []int, cols []api.Column) bool {
	for _, at := range l {
		if !place(at, cols) {
			return false
		}
	}
	return len(l) <= api.MaxValues
}

// place tells whether a number is a column's.
func place(at int, cols []api.Column) bool { return at >= 0 && at < len(cols) }
