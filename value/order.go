package value

import (
	"cmp"

	"streamwright/api"
)

// Compare tells which of two values comes first.
func Compare(a, b api.Value) int {
	return inTurn(
		func() int { return cmp.Compare(a.Kind, b.Kind) },
		func() int { return cmp.Compare(a.Int, b.Int) },
		func() int { return cmp.Compare(a.Text, b.Text) },
	)
}

// CompareRows tells which of two rows comes first.
func CompareRows(a, b api.Row) int {
	return inTurn(
		func() int { return cmp.Compare(a.Time, b.Time) },
		func() int { return compareLists(a.Values, b.Values) },
	)
}

// inTurn asks orders one after the other: a later one counts only where all
// ahead of it see no difference.
func inTurn(orders ...func() int) int {
	for _, order := range orders {
		if c := order(); c != 0 {
			return c
		}
	}
	return 0
}

// compareLists tells which of two lists of values comes first.
func compareLists(a, b []api.Value) int {
	for i := range min(len(a), len(b)) {
		if a[i] != b[i] {
			return Compare(a[i], b[i])
		}
	}
	return cmp.Compare(len(a), len(b))
}
