package expr

import (
	"slices"

	"streamwright/api"
	"streamwright/value"
)

// anyKind stands where any kind may, but the same one throughout an operation.
const anyKind = api.Null

// operation is what a sign or a function does.
type operation struct {
	takes []api.Kind
	gives api.Kind
	to    func(l []api.Value) api.Value
}

// kindOf tells the kind of what comes of parts of these kinds; false: they do
// not fit.
func (o operation) kindOf(kinds []api.Kind) (api.Kind, bool) {
	if len(kinds) != len(o.takes) {
		return 0, false
	}
	met := anyKind
	for i, kind := range kinds {
		asked := o.takes[i]
		if asked == anyKind && met == anyKind {
			met = kind
		}
		if asked == anyKind {
			asked = met
		}
		if kind != asked {
			return 0, false
		}
	}
	if o.gives == anyKind {
		return met, true
	}
	return o.gives, true
}

// prefixOperation is what `not` or `-` does.
func prefixOperation(sign string) operation {
	if sign == "not" {
		return operation{[]api.Kind{api.Bool}, api.Bool, orNull(func(l []api.Value) api.Value {
			return value.Truth(l[0] == value.Truth(false))
		})}
	}
	return operation{[]api.Kind{api.Int}, api.Int, orNull(func(l []api.Value) api.Value {
		return value.Of(-l[0].Int)
	})}
}

// infixOperation is what a sign between two parts does.
func infixOperation(sign string) operation {
	switch sign {
	case "or":
		return decided(true)
	case "and":
		return decided(false)
	case "=":
		return comparison(func(order int) bool { return order == 0 })
	case "<>":
		return comparison(func(order int) bool { return order != 0 })
	case "<":
		return comparison(func(order int) bool { return order < 0 })
	case "<=":
		return comparison(func(order int) bool { return order <= 0 })
	case ">":
		return comparison(func(order int) bool { return order > 0 })
	case ">=":
		return comparison(func(order int) bool { return order >= 0 })
	case "++":
		return operation{[]api.Kind{api.Text, api.Text}, api.Text, orNull(func(l []api.Value) api.Value {
			return value.Words(cut(l[0].Text+l[1].Text, api.MaxText))
		})}
	case "+":
		return arithmetic(func(a, b int64) api.Value { return value.Of(a + b) })
	case "-":
		return arithmetic(func(a, b int64) api.Value { return value.Of(a - b) })
	case "*":
		return arithmetic(func(a, b int64) api.Value { return value.Of(a * b) })
	case "/":
		return arithmetic(unlessZero(func(a, b int64) int64 { return a / b }))
	case "%":
		return arithmetic(unlessZero(func(a, b int64) int64 { return a % b }))
	}
	return operation{}
}

// decided is what `and` and `or` do: one side that is so decides, whatever
// the other one is.
func decided(so bool) operation {
	return operation{[]api.Kind{api.Bool, api.Bool}, api.Bool, func(l []api.Value) api.Value {
		if slices.Contains(l, value.Truth(so)) {
			return value.Truth(so)
		}
		if hasNull(l) {
			return api.Value{}
		}
		return value.Truth(!so)
	}}
}

// comparison is true where the order of two values is one that is wanted.
func comparison(wanted func(order int) bool) operation {
	return operation{[]api.Kind{anyKind, anyKind}, api.Bool, orNull(func(l []api.Value) api.Value {
		return value.Truth(wanted(value.Compare(l[0], l[1])))
	})}
}

// arithmetic is what is done with two numbers.
func arithmetic(of func(a, b int64) api.Value) operation {
	return operation{[]api.Kind{api.Int, api.Int}, api.Int, orNull(func(l []api.Value) api.Value {
		return of(l[0].Int, l[1].Int)
	})}
}

// unlessZero makes what comes to Null where the second number is 0.
func unlessZero(of func(a, b int64) int64) func(a, b int64) api.Value {
	return func(a, b int64) api.Value {
		if b == 0 {
			return api.Value{}
		}
		return value.Of(of(a, b))
	}
}

// function gives what one does; false: there is none of that name.
func function(name string) (operation, bool) {
	switch name {
	case "len":
		return operation{[]api.Kind{api.Text}, api.Int, orNull(func(l []api.Value) api.Value {
			return value.Of(int64(len(l[0].Text)))
		})}, true
	case "abs":
		return operation{[]api.Kind{api.Int}, api.Int, orNull(func(l []api.Value) api.Value {
			return value.Of(max(l[0].Int, -l[0].Int))
		})}, true
	case "cut":
		return operation{[]api.Kind{api.Text, api.Int}, api.Text, orNull(func(l []api.Value) api.Value {
			return value.Words(cut(l[0].Text, l[1].Int))
		})}, true
	case "isnull":
		return operation{[]api.Kind{anyKind}, api.Bool, func(l []api.Value) api.Value {
			return value.Truth(hasNull(l))
		}}, true
	case "coalesce":
		return operation{[]api.Kind{anyKind, anyKind}, anyKind, func(l []api.Value) api.Value {
			if l[0] != (api.Value{}) {
				return l[0]
			}
			return l[1]
		}}, true
	case "if":
		return operation{[]api.Kind{api.Bool, anyKind, anyKind}, anyKind, func(l []api.Value) api.Value {
			if l[0] == value.Truth(true) {
				return l[1]
			}
			return l[2]
		}}, true
	}
	return operation{}, false
}

// orNull makes what comes to Null where there is one among the values.
func orNull(to func(l []api.Value) api.Value) func(l []api.Value) api.Value {
	return func(l []api.Value) api.Value {
		if hasNull(l) {
			return api.Value{}
		}
		return to(l)
	}
}

func hasNull(l []api.Value) bool { return slices.Contains(l, api.Value{}) }

// cut gives the first n bytes of a text: none below 0, all above.
func cut(s string, n int64) string {
	return s[:max(0, min(n, int64(len(s))))]
}
