package syntax

import "tillage/api"

// What no name may be.
var words = [...]string{
	"BEGIN", "END", "print", "if", "else", "while", "for", "in", "next", "delete", "load", "length", "substr", "index",
	"NR", "NF",
}

// Those of two bytes stand ahead of those of one, so that the first one that fits is the longest one.
var signs = [...]string{
	"<=", "==", "!=", ">=", "&&", "||", "..", "+", "-", "*", "/", "%", "<", ">", "!", "$", "(", ")", "{", "}", "[", "]",
	",", ";", "=", "?", ":",
}

// What stands between two sides, and how strong it binds.
var levels = [...]struct {
	operator string
	level    int
}{
	{"||", 1}, {"&&", 2}, {"<", 3}, {"<=", 3}, {"==", 3}, {"!=", 3}, {">", 3}, {">=", 3}, {inList, 3}, {"..", 4},
	{"+", 5}, {"-", 5}, {"*", strongest}, {"/", strongest}, {"%", strongest},
}

const strongest = 6

// inList binds as a comparison does, but has a list, not an expression, as its second side: it is no operator of an Op.
const inList = "in"

// Signs that stand ahead of something, and what they make of it.
var prefixes = [...]struct {
	sign string
	kind int
}{
	{"-", api.Neg}, {"!", api.Not}, {"$", api.Field},
}

var functions = [...]struct {
	name string
	args int
}{
	{"length", 1}, {"index", 2}, {"substr", 3},
}

// How many Args an expression has, by its Kind; of a Call functions tells it.
var argsOfKind = [...]int{
	api.Num: 0, api.Str: 0, api.Var: 0, api.Field: 1, api.Elem: 1, api.Op: 2, api.Neg: 1, api.Not: 1, api.In: 1,
	api.If: 3, api.Call: 0, api.Count: 0,
}

// How many Exprs a statement has, by its Kind; a Print may have more.
var exprsOfKind = [...]int{
	api.Set: 1, api.Put: 2, api.Write: 2, api.Print: 1, api.Branch: 1, api.While: 1, api.Each: 0, api.Next: 0,
	api.Delete: 1, api.Load: 0,
}

func isWord(s string) bool {
	for _, w := range words {
		if w == s {
			return true
		}
	}
	return false
}

// level: how strong an operator, or the word in, binds; 0: it is neither.
func level(s string) int {
	for _, l := range levels {
		if l.operator == s {
			return l.level
		}
	}
	return 0
}

func isOperator(s string) bool { return s != inList && level(s) > 0 }

// argsOf: how many Args a function has; 0: there is none of that name.
func argsOf(function string) int {
	for _, f := range functions {
		if f.name == function {
			return f.args
		}
	}
	return 0
}
