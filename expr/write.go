package expr

import (
	"strings"

	"streamwright/value"
)

// rank is how tightly a part joins, by the rule of the grammar that makes it.
type rank int

const (
	orRank rank = iota
	andRank
	notRank
	comparisonRank
	sumRank
	productRank
	minusRank
	firstRank
)

// signRank tells the rank of two parts that a sign joins; what is no such
// sign joins nothing, which no rank is asked for.
func signRank(sign string) rank {
	switch sign {
	case "or":
		return orRank
	case "and":
		return andRank
	case "=", "<>", "<", "<=", ">", ">=":
		return comparisonRank
	case "+", "-", "++":
		return sumRank
	case "*", "/", "%":
		return productRank
	}
	return firstRank
}

// rankOf tells how tightly a part joins.
func rankOf(n node) rank {
	if i, ok := n.(infix); ok {
		return i.rank
	}
	if p, ok := n.(prefix); ok {
		return p.rank
	}
	return firstRank
}

// written gives the text of a part.
func written(n node) string {
	switch n := n.(type) {
	case literal:
		return value.Show(n.is)
	case column:
		return n.name
	case prefix:
		return n.lead() + placed(n.parts[0], n.rank)
	case infix:
		return placed(n.parts[0], n.leftRank()) + " " + n.sign + " " + placed(n.parts[1], n.rank+1)
	case call:
		list := make([]string, len(n.parts))
		for i, part := range n.parts {
			list[i] = placed(part, orRank)
		}
		return n.name + "(" + strings.Join(list, ", ") + ")"
	}
	return ""
}

// placed gives the text of a part for a place that asks for a rank.
func placed(n node, asked rank) string {
	if rankOf(n) < asked {
		return "(" + written(n) + ")"
	}
	return written(n)
}

// lead is what stands ahead of a prefix's part.
func (p prefix) lead() string {
	if p.rank == notRank {
		return p.sign + " "
	}
	return p.sign
}

// leftRank is what the place on the left asks for: the same rank once more,
// as it is joined from the left; but comparisons have no comparison within.
func (i infix) leftRank() rank {
	if i.rank == comparisonRank {
		return i.rank + 1
	}
	return i.rank
}
