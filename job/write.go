package job

import (
	"slices"
	"strconv"
	"strings"

	"streamwright/api"
)

// written gives the line of a node that was read.
func written(n api.Node, nodes []api.Node) string {
	o := n.Op
	if o.Kind == api.OpSource {
		return spaced("stream", n.Name, "("+ofColumns(o.Columns)+")", ofBound(n.Bound))
	}
	head := spaced(n.Name, "=", nodes[n.Inputs[0]].Name)
	switch o.Kind {
	case api.OpSink:
		return spaced("sink", head)
	case api.OpWhere:
		return spaced(head, "where", o.Exprs[0])
	case api.OpMap:
		return spaced(head, "select", ofTitled(o.Exprs, o.Names))
	case api.OpWindow:
		return spaced(head, "by", ofKeys(o), ofWindows(o.Windows), ofAggs(o))
	case api.OpUnion:
		return spaced(head, "union", commas(n.Inputs[1:], func(at int) string { return nodes[at].Name }))
	case api.OpJoin:
		return spaced(head, ofOuter(o.Outer), "join", nodes[n.Inputs[1]].Name, "on", ofPairs(o), ofWindows(o.Windows))
	}
	return ""
}

// spaced joins what is not empty with one space between.
func spaced(parts ...string) string {
	return strings.Join(slices.DeleteFunc(parts, func(s string) bool { return s == "" }), " ")
}

// commas joins the texts of things with commas between.
func commas[T any](l []T, text func(T) string) string {
	return strings.Join(texts(l, text), ", ")
}

func texts[T any](l []T, text func(T) string) []string {
	var out []string
	for _, one := range l {
		out = append(out, text(one))
	}
	return out
}

func ofColumns(cols []api.Column) string {
	return commas(cols, func(c api.Column) string { return spaced(c.Name, wordFor(columnKinds(), c.Kind)) })
}

func ofNumber(n int64) string { return strconv.FormatInt(n, 10) }

func ofBound(bound int64) string {
	if bound == 0 {
		return ""
	}
	return spaced("late", ofNumber(bound))
}

// ofTitled gives things with their names.
func ofTitled(things, names []string) string {
	var l []string
	for i, thing := range things {
		l = append(l, spaced(thing, "as", names[i]))
	}
	return strings.Join(l, ", ")
}

func ofKeys(o api.Op) string {
	if len(o.Keys) == 0 {
		return "nothing"
	}
	return commas(o.Keys, func(at int) string { return o.Columns[at].Name })
}

func ofWindows(w api.Windows) string {
	said := spaced("in", wordFor(windowKinds(), w.Kind))
	switch w.Kind {
	case api.Whole:
		return said
	case api.Slide:
		return spaced(said, ofNumber(w.Size), "every", ofNumber(w.Step))
	}
	return spaced(said, ofNumber(w.Size))
}

func ofAggs(o api.Op) string {
	if len(o.Aggs) == 0 {
		return ""
	}
	return spaced("give", ofTitled(texts(o.Aggs, func(a api.Agg) string { return ofFold(a, o.Columns) }), o.Names))
}

func ofFold(a api.Agg, cols []api.Column) string {
	of := ""
	if a.Kind != api.Count {
		of = cols[a.At].Name
	}
	return wordFor(folds(), a.Kind) + "(" + of + ")"
}

func ofOuter(outer bool) string {
	if outer {
		return "outer"
	}
	return ""
}

func ofPairs(o api.Op) string {
	var l []string
	for i, at := range o.Keys {
		l = append(l, spaced(o.Columns[at].Name, "=", o.Right[o.Others[i]].Name))
	}
	return strings.Join(l, " and ")
}
