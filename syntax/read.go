package syntax

import "tillage/api"

// reader goes through pieces from the first one on, and refuses (see there) the first one that may not be there.
type reader struct {
	pieces []piece // those that are not read yet
	open   int     // blocks, whole expressions, and signs ahead of something
}

func (r *reader) ended() bool { return len(r.pieces) == 0 }

func (r *reader) next() piece {
	refuse(r.ended(), api.ErrShort)
	p := r.pieces[0]
	r.pieces = r.pieces[1:]
	return p
}

// sees: is the next piece that word or sign? A text that tells the same bytes is not.
func (r *reader) sees(s string) bool {
	return !r.ended() && r.pieces[0].kind != text && r.pieces[0].s == s
}

func (r *reader) skip(s string) bool {
	so := r.sees(s)
	if so {
		r.next()
	}
	return so
}

func (r *reader) need(s string) {
	refuse(r.ended(), api.ErrShort)
	refuse(!r.skip(s), api.ErrForm)
}

func (r *reader) name() string {
	p := r.next()
	refuse(p.kind != word || !Name(p.s), api.ErrForm)
	return p.s
}

// enter counts one more that is open; what it answers is to be deferred, and counts it as closed. It does not look at
// the next piece: too many are too many, even if none could begin there.
func (r *reader) enter() (leave func()) {
	r.open++
	refuse(r.open > 2*api.MaxNest, api.ErrSize)
	return func() { r.open-- }
}

func (r *reader) rule() api.Rule {
	switch {
	case r.skip("BEGIN"):
		return api.Rule{When: api.Begin, Body: r.block()}
	case r.skip("END"):
		return api.Rule{When: api.End, Body: r.block()}
	case r.sees("{"):
		return api.Rule{When: api.Main, Body: r.block()}
	}
	pattern := r.whole()
	return api.Rule{When: api.Main, Has: true, Pattern: pattern, Body: r.block()}
}

func (r *reader) block() []api.Stmt {
	defer r.enter()()
	r.need("{")
	var l []api.Stmt
	for !r.skip("}") {
		l = append(l, r.stmt())
	}
	return l
}

func (r *reader) stmt() api.Stmt {
	switch {
	case r.skip("if"):
		return r.branch()
	case r.skip("while"):
		return api.Stmt{Kind: api.While, Exprs: r.question(), Body: r.block()}
	case r.skip("for"):
		return r.each()
	}
	s := r.simple()
	r.need(";")
	return s
}

// question: what an if or a while asks.
func (r *reader) question() []api.Expr {
	r.need("(")
	x := r.whole()
	r.need(")")
	return []api.Expr{x}
}

func (r *reader) branch() api.Stmt {
	s := api.Stmt{Kind: api.Branch, Exprs: r.question(), Body: r.block()}
	if r.skip("else") {
		s.Else = r.block()
	}
	return s
}

func (r *reader) each() api.Stmt {
	s := api.Stmt{Kind: api.Each}
	r.need("(")
	s.S = r.name()
	r.need(inList)
	s.T = r.name()
	r.need(")")
	s.Body = r.block()
	return s
}

// simple: a statement without a block, up to its semicolon.
func (r *reader) simple() api.Stmt {
	switch {
	case r.skip("print"):
		return api.Stmt{Kind: api.Print, Exprs: r.wholes()}
	case r.skip("next"):
		return api.Stmt{Kind: api.Next}
	case r.skip("delete"):
		name := r.name()
		return api.Stmt{Kind: api.Delete, S: name, Exprs: []api.Expr{r.key()}}
	case r.skip("load"):
		file := r.next()
		refuse(file.kind != text, api.ErrForm)
		return api.Stmt{Kind: api.Load, S: r.name(), T: file.s}
	case r.skip("$"):
		field := r.signed()
		return api.Stmt{Kind: api.Write, Exprs: []api.Expr{field, r.assigned()}}
	}
	return r.assignment()
}

// assignment to a variable, or to what stands in a list.
func (r *reader) assignment() api.Stmt {
	name := r.name()
	if r.sees("[") {
		key := r.key()
		return api.Stmt{Kind: api.Put, S: name, Exprs: []api.Expr{key, r.assigned()}}
	}
	return api.Stmt{Kind: api.Set, S: name, Exprs: []api.Expr{r.assigned()}}
}

func (r *reader) assigned() api.Expr {
	r.need("=")
	return r.whole()
}

func (r *reader) key() api.Expr {
	r.need("[")
	x := r.whole()
	r.need("]")
	return x
}

func (r *reader) wholes() []api.Expr {
	l := []api.Expr{r.whole()}
	for r.skip(",") {
		l = append(l, r.whole())
	}
	return l
}

// whole expression: nothing around it binds stronger than what is in it.
func (r *reader) whole() api.Expr {
	defer r.enter()()
	x := r.binary(1)
	if !r.skip("?") {
		return x
	}
	yes := r.whole()
	r.need(":")
	return api.Expr{Kind: api.If, Args: []api.Expr{x, yes, r.whole()}}
}

// binary: an expression whose operators, outside of parentheses, bind at least that strong. Both sides of an operator
// bind stronger, but for the left one, that may have as strong ones: so the first one of these is the inner one. What
// binds stronger than in does may not follow its list: it would have that as its side.
func (r *reader) binary(least int) api.Expr {
	if least > strongest {
		return r.operand()
	}
	x := r.binary(least + 1)
	for r.level() == least {
		operator := r.next().s
		if operator == inList {
			x = api.Expr{Kind: api.In, S: r.name(), Args: []api.Expr{x}}
		} else {
			x = api.Expr{Kind: api.Op, S: operator, Args: []api.Expr{x, r.binary(least + 1)}}
		}
	}
	return x
}

// level: how strong the next piece binds; 0: it is no operator.
func (r *reader) level() int {
	if r.ended() || r.pieces[0].kind == text {
		return 0
	}
	return level(r.pieces[0].s)
}

func (r *reader) operand() api.Expr {
	for _, p := range prefixes {
		if r.skip(p.sign) {
			return api.Expr{Kind: p.kind, Args: []api.Expr{r.signed()}}
		}
	}
	p := r.next()
	switch {
	case p.kind == number:
		return api.Expr{Kind: api.Num, N: p.n}
	case p.kind == text:
		return api.Expr{Kind: api.Str, S: p.s}
	case p.kind == word:
		return r.named(p.s)
	}
	refuse(p.s != "(", api.ErrForm)
	x := r.whole()
	r.need(")")
	return x
}

// signed: what a sign that was read stands ahead of.
func (r *reader) signed() api.Expr {
	defer r.enter()()
	return r.operand()
}

// named: what begins with a word that was read. How many Args a function has, Check asks.
func (r *reader) named(s string) api.Expr {
	switch {
	case s == "NR" || s == "NF":
		return api.Expr{Kind: api.Count, S: s}
	case argsOf(s) > 0:
		r.need("(")
		args := r.wholes()
		r.need(")")
		return api.Expr{Kind: api.Call, S: s, Args: args}
	}
	refuse(!Name(s), api.ErrForm)
	if r.sees("[") {
		return api.Expr{Kind: api.Elem, S: s, Args: []api.Expr{r.key()}}
	}
	return api.Expr{Kind: api.Var, S: s}
}
