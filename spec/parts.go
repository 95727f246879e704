package spec

import (
	"tillage/api"
	"tillage/value"
)

// constant: the value of an expression that is one.
func constant(x api.Expr) (api.Value, bool) {
	switch {
	case x.Kind == api.Num:
		return value.Number(x.N), true
	case x.Kind == api.Str:
		return value.Text(x.S), true
	case x.Kind == api.Neg && x.Args[0].Kind == api.Num:
		return value.Number(-x.Args[0].N), true
	}
	return api.Value{}, false
}

// written: the constant that is a value.
func written(v api.Value) api.Expr {
	switch {
	case v.Text:
		return api.Expr{Kind: api.Str, S: v.S}
	case v.N < 0:
		return api.Expr{Kind: api.Neg, Args: []api.Expr{{Kind: api.Num, N: -v.N}}}
	}
	return api.Expr{Kind: api.Num, N: v.N}
}

func truth(so bool) api.Expr {
	if so {
		return written(value.Number(1))
	}
	return written(value.Number(0))
}

func set(name string, v api.Value) api.Stmt {
	return api.Stmt{Kind: api.Set, S: name, Exprs: []api.Expr{written(v)}}
}

func put(list, key string, v api.Value) api.Stmt {
	return api.Stmt{Kind: api.Put, S: list, Exprs: []api.Expr{written(value.Text(key)), written(v)}}
}

func printed(line string) api.Stmt {
	return api.Stmt{Kind: api.Print, Exprs: []api.Expr{written(value.Text(line))}}
}
