package grammar

import (
	"excise/api"
	"excise/lex"
)

// The greatest number that stands for itself: a scale, or how many rows there may be.
const maxInt = 1 << 30

// The words of operators and of what is asked of columns, by their numbers.
var operators = []string{
	api.OpAdd: "+", api.OpSub: "-", api.OpMul: "*",
	api.OpEq: "=", api.OpNe: "!=", api.OpLt: "<", api.OpLe: "<=", api.OpGt: ">", api.OpGe: ">=",
	api.OpAnd: "and", api.OpOr: "or",
	api.AgSum: "sum", api.AgCount: "count", api.AgMin: "min", api.AgMax: "max", api.AgRows: "rows",
}

// The words of policies, by their numbers.
var policies = []string{
	api.HalfUp: "half_up", api.HalfEven: "half_even", api.Down: "down", api.Up: "up", api.Floor: "floor",
}

// operator is the number, from first to last, of an operator's word; 0, if it is none of these.
func operator(word string, first, last int) int {
	for op := first; op <= last; op++ {
		if operators[op] == word {
			return op
		}
	}
	return 0
}

// policy is the number of a policy's word; 0, if it is none.
func policy(word string) int {
	for p := api.HalfUp; p <= api.Floor; p++ {
		if policies[p] == word {
			return p
		}
	}
	return 0
}

// isOwn tells whether a word is the language's, so that nothing can have it as its name.
func isOwn(word string) bool {
	switch word {
	case "return", "field", "line", "check", "section", "table", "page", "when",
		"max", "from", "base", "rate", "needed", "amount", "flag", "text",
		"if", "round", "blank", "rows", "sum", "count", "min",
		"and", "or", "not", "true", "false",
		"half_up", "half_even", "down", "up", "floor":
		return true
	}
	return false
}

// isName tells whether a text may name a thing of a definition.
func isName(s string) bool { return lex.Name(s) && !isOwn(s) }
