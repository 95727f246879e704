package spec

import (
	"slices"

	"tillage/api"
	"tillage/value"
)

// mostKeys that a list may have whose Each is written out.
const mostKeys = 20

// folder makes of rules what is left to be done of them. All that it makes is new, and shared with nothing: a Body that
// is written out is made again for each key.
type folder struct {
	known func(name string) bool                  // will it always be as it is now?
	tell  func(x api.Expr) (api.Value, bool)      // what is an expression now, if no run would end there?
	keys  func(list string) (l []string, ok bool) // is an Each over it to be written out, and by which keys?
}

// rules of Main and End.
func (f folder) rules(l []api.Rule) []api.Rule {
	var all []api.Rule
	for _, r := range l {
		if r.When != api.Begin {
			all = append(all, f.rule(r)...)
		}
	}
	return all
}

// rule: as it will be; or none, if it is never done.
func (f folder) rule(r api.Rule) []api.Rule {
	made := api.Rule{When: r.When}
	if r.Has {
		pattern := f.expr(r.Pattern)
		v, ok := constant(pattern)
		if ok && !value.True(v) {
			return nil
		}
		if !ok {
			made.Has, made.Pattern = true, pattern
		}
	}
	made.Body = f.stmts(r.Body)
	return []api.Rule{made}
}

func (f folder) stmts(l []api.Stmt) []api.Stmt {
	var all []api.Stmt
	for _, s := range l {
		all = append(all, f.stmt(s)...)
	}
	return all
}

// stmt: the statements that do what one did.
func (f folder) stmt(s api.Stmt) []api.Stmt {
	if s.Kind == api.Each {
		if keys, ok := f.keys(s.T); ok {
			return f.writtenOut(s, keys)
		}
	}
	exprs := f.exprs(s.Exprs)
	if s.Kind == api.Branch || s.Kind == api.While {
		if v, ok := constant(exprs[0]); ok {
			return f.decided(s, exprs, value.True(v))
		}
	}
	return []api.Stmt{f.around(s, exprs)}
}

// around expressions that are made already, the rest of a statement.
func (f folder) around(s api.Stmt, exprs []api.Expr) api.Stmt {
	return api.Stmt{Kind: s.Kind, S: s.S, T: s.T, Exprs: exprs, Body: f.stmts(s.Body), Else: f.stmts(s.Else)}
}

// decided: a Branch or a While of whose question it is known whether it holds.
func (f folder) decided(s api.Stmt, exprs []api.Expr, holds bool) []api.Stmt {
	switch {
	case s.Kind == api.Branch && holds:
		return f.stmts(s.Body)
	case s.Kind == api.Branch:
		return f.stmts(s.Else)
	case holds:
		return []api.Stmt{f.around(s, exprs)}
	}
	return nil
}

func (f folder) writtenOut(s api.Stmt, keys []string) []api.Stmt {
	var all []api.Stmt
	for _, key := range keys {
		all = append(all, set(s.S, value.Text(key)))
		all = append(all, f.stmts(s.Body)...)
	}
	return all
}

func (f folder) exprs(l []api.Expr) []api.Expr {
	var all []api.Expr
	for _, x := range l {
		all = append(all, f.expr(x))
	}
	return all
}

func (f folder) expr(x api.Expr) api.Expr {
	switch {
	case x.Kind == api.If:
		return f.either(x)
	case x.Kind == api.Op && (x.S == "&&" || x.S == "||"):
		return f.both(x)
	}
	return f.told(api.Expr{Kind: x.Kind, N: x.N, S: x.S, Args: f.exprs(x.Args)})
}

func (f folder) either(x api.Expr) api.Expr {
	question := f.expr(x.Args[0])
	v, ok := constant(question)
	switch {
	case ok && value.True(v):
		return f.expr(x.Args[1])
	case ok:
		return f.expr(x.Args[2])
	}
	return api.Expr{Kind: x.Kind, Args: []api.Expr{question, f.expr(x.Args[1]), f.expr(x.Args[2])}}
}

// both sides, unless the first one tells. One that does not tell stays: without it the second side would have to be
// turned into 1 or 0.
func (f folder) both(x api.Expr) api.Expr {
	first := f.expr(x.Args[0])
	if v, ok := constant(first); ok && value.True(v) == (x.S == "||") {
		return truth(value.True(v))
	}
	return f.told(api.Expr{Kind: x.Kind, S: x.S, Args: []api.Expr{first, f.expr(x.Args[1])}})
}

// told: an expression whose Args are made already; as a constant, if it is known.
func (f folder) told(x api.Expr) api.Expr {
	if f.askable(x) && !slices.ContainsFunc(x.Args, open) {
		if v, ok := f.tell(x); ok {
			return written(v)
		}
	}
	return x
}

// askable: an expression that hangs on its Args, and on what is known, alone.
func (f folder) askable(x api.Expr) bool {
	switch x.Kind {
	case api.Var, api.Elem, api.In:
		return f.known(x.S)
	case api.Op, api.Neg, api.Not, api.Call:
		return true
	}
	return false
}

// open: an expression that is no constant.
func open(x api.Expr) bool {
	_, ok := constant(x)
	return !ok
}
