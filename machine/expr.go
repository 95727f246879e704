package machine

import (
	"tillage/api"
	"tillage/value"
)

// ask an expression for its value.
func (m *Machine) ask(x api.Expr) api.Value {
	switch x.Kind {
	case api.Num:
		return value.Number(x.N)
	case api.Str:
		return value.Text(x.S)
	case api.Var:
		return m.vars[x.S]
	case api.Field:
		return value.Text(m.field(m.ask(x.Args[0])))
	case api.Elem:
		return m.lists[x.S][m.text(x.Args[0])]
	case api.Op:
		return m.op(x.S, x.Args[0], x.Args[1])
	case api.Neg:
		return sure(value.Op("-", value.Number(0), m.ask(x.Args[0])))
	case api.Not:
		return truth(!m.holds(x.Args[0]))
	case api.In:
		_, in := m.lists[x.S][m.text(x.Args[0])]
		return truth(in)
	case api.If:
		return m.either(x.Args[0], x.Args[1], x.Args[2])
	case api.Call:
		return sure(value.Call(x.S, m.values(x.Args)))
	}
	return value.Number(m.count(x.S))
}

func (m *Machine) text(x api.Expr) string { return value.Str(m.ask(x)) }

func (m *Machine) values(l []api.Expr) []api.Value {
	var all []api.Value
	for _, x := range l {
		all = append(all, m.ask(x))
	}
	return all
}

// op asks for the second side only if the first one does not tell.
func (m *Machine) op(operator string, a, b api.Expr) api.Value {
	switch operator {
	case "&&":
		return truth(m.holds(a) && m.holds(b))
	case "||":
		return truth(m.holds(a) || m.holds(b))
	}
	first := m.ask(a)
	return sure(value.Op(operator, first, m.ask(b)))
}

func (m *Machine) either(question, yes, no api.Expr) api.Value {
	if m.holds(question) {
		return m.ask(yes)
	}
	return m.ask(no)
}

func (m *Machine) field(number api.Value) string {
	n, e := value.Num(number)
	endIf(e != api.OK || n < 0, api.BadField)
	switch {
	case n == 0:
		return m.whole
	case n > len(m.fields):
		return ""
	}
	return m.fields[n-1]
}

func (m *Machine) count(what string) int {
	if what == "NR" {
		return m.records
	}
	return len(m.fields)
}

// sure: a value, or else the run ends as is told beside it.
func sure(v api.Value, end int) api.Value {
	endIf(end != api.Done, end)
	return v
}

func truth(so bool) api.Value {
	if so {
		return value.Number(1)
	}
	return value.Number(0)
}
