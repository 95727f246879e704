package spec

import "tillage/api"

// What a name is.
const (
	variable = 1
	list     = 2
)

// names that stand in rules of Main and End.
type names struct {
	kinds   map[string]int // a variable, or a list
	changed map[string]int // how many statements set it, or change it
}

func namesOf(rules []api.Rule) names {
	n := names{map[string]int{}, map[string]int{}}
	for _, r := range rules {
		if r.When == api.Begin {
			continue
		}
		if r.Has {
			n.expr(r.Pattern)
		}
		n.stmts(r.Body)
	}
	return n
}

func (n names) stmts(l []api.Stmt) {
	for _, s := range l {
		n.stmt(s)
	}
}

func (n names) stmt(s api.Stmt) {
	switch s.Kind {
	case api.Set:
		n.change(s.S, variable)
	case api.Each:
		n.change(s.S, variable)
		n.kinds[s.T] = list
	case api.Put, api.Delete:
		n.change(s.S, list)
	}
	n.exprs(s.Exprs)
	n.stmts(s.Body)
	n.stmts(s.Else)
}

func (n names) change(name string, kind int) {
	n.kinds[name] = kind
	n.changed[name]++
}

func (n names) exprs(l []api.Expr) {
	for _, x := range l {
		n.expr(x)
	}
}

func (n names) expr(x api.Expr) {
	switch x.Kind {
	case api.Var:
		n.kinds[x.S] = variable
	case api.Elem, api.In:
		n.kinds[x.S] = list
	}
	n.exprs(x.Args)
}
