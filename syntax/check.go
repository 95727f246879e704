package syntax

import "tillage/api"

// What a name is.
const (
	variable = 1
	list     = 2
)

// checker looks at a program, part by part, and refuses (see there) the first one that is wrong.
type checker struct {
	names map[string]int // what those that were met are
	nodes int            // expressions and statements that were met
	when  int            // of the rule that is looked at
}

func (c *checker) rule(r api.Rule) {
	refuse(r.When < api.Begin || r.When > api.End, api.ErrKind)
	refuse(r.Has && r.When != api.Main, api.ErrForm)
	c.when = r.When
	if r.Has {
		c.expr(r.Pattern, 1)
	}
	refuse(!r.Has && !isZero(r.Pattern), api.ErrForm)
	c.stmts(r.Body, 1)
}

func isZero(x api.Expr) bool { return x.Kind == 0 && x.N == 0 && x.S == "" && len(x.Args) == 0 }

func (c *checker) exprs(l []api.Expr, depth int) {
	for _, x := range l {
		c.expr(x, depth)
	}
}

func (c *checker) stmts(l []api.Stmt, depth int) {
	for _, s := range l {
		c.stmt(s, depth)
	}
}

func (c *checker) expr(x api.Expr, depth int) {
	c.node(depth)
	refuse(x.Kind < api.Num || x.Kind > api.Count, api.ErrKind)
	refuse(!exprHasItsParts(x), api.ErrForm)
	c.exprTexts(x)
	refuse(x.N < 0 || x.N > api.MaxNumber, api.ErrRange)
	c.exprs(x.Args, depth+1)
}

func (c *checker) stmt(s api.Stmt, depth int) {
	c.node(depth)
	refuse(s.Kind < api.Set || s.Kind > api.Load, api.ErrKind)
	refuse(!stmtHasItsParts(s), api.ErrForm)
	c.stmtTexts(s)
	refuse(s.Kind == api.Next && c.when != api.Main, api.ErrUse)
	c.exprs(s.Exprs, depth+1)
	c.stmts(s.Body, depth+1)
	c.stmts(s.Else, depth+1)
}

// node keeps the walk short, whatever is handed in: parts that hold themselves are too deep at some time.
func (c *checker) node(depth int) {
	c.nodes++
	refuse(c.nodes > api.MaxNodes || depth > api.MaxNest, api.ErrSize)
}

func exprHasItsParts(x api.Expr) bool {
	if x.Kind != api.Num && x.N != 0 {
		return false
	}
	if x.Kind == api.Call {
		return argsOf(x.S) > 0 && len(x.Args) == argsOf(x.S)
	}
	return len(x.Args) == argsOfKind[x.Kind]
}

func stmtHasItsParts(s api.Stmt) bool {
	many, least := len(s.Exprs), exprsOfKind[s.Kind]
	return (many == least || s.Kind == api.Print && many > least) &&
		(len(s.Body) == 0 || hasBody(s.Kind)) &&
		(len(s.Else) == 0 || s.Kind == api.Branch)
}

func hasBody(kind int) bool { return kind == api.Branch || kind == api.While || kind == api.Each }

// exprTexts: the function of a Call was asked for already, with its Args.
func (c *checker) exprTexts(x api.Expr) {
	switch x.Kind {
	case api.Str:
		refuse(len(x.S) > api.MaxText, api.ErrSize)
	case api.Var:
		c.name(x.S, variable)
	case api.Elem, api.In:
		c.name(x.S, list)
	case api.Op:
		refuse(!isOperator(x.S), api.ErrForm)
	case api.Count:
		refuse(x.S != "NR" && x.S != "NF", api.ErrForm)
	case api.Call:
	default:
		refuse(x.S != "", api.ErrForm)
	}
}

func (c *checker) stmtTexts(s api.Stmt) {
	switch s.Kind {
	case api.Set, api.Each:
		c.name(s.S, variable)
	case api.Put, api.Delete, api.Load:
		c.name(s.S, list)
	default:
		refuse(s.S != "", api.ErrForm)
	}
	refuse(s.Kind == api.Load && c.when != api.Begin, api.ErrUse)
	switch s.Kind {
	case api.Each:
		c.name(s.T, list)
	case api.Load:
		refuse(len(s.T) > api.MaxText, api.ErrSize)
	default:
		refuse(s.T != "", api.ErrForm)
	}
}

// name: what it is where it is met first, it is in the whole program.
func (c *checker) name(s string, kind int) {
	refuse(!Name(s), api.ErrForm)
	if c.names[s] == 0 {
		c.names[s] = kind
	}
	refuse(c.names[s] != kind, api.ErrType)
}
