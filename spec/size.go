package spec

import "tillage/api"

// sizer counts the expressions and statements that there will be when each Each over keys is written out: ahead of
// that, as there may be far more than can be made.
type sizer struct {
	keys func(list string) ([]string, bool)
}

// size of rules; all that is too great is told as one more than there may be.
func size(rules []api.Rule, keys func(list string) ([]string, bool)) int {
	z, all := sizer{keys}, 0
	for _, r := range rules {
		if r.Has {
			all += exprSize(r.Pattern)
		}
		all = bounded(all + z.stmts(r.Body))
	}
	return all
}

func (z sizer) stmts(l []api.Stmt) int {
	all := 0
	for _, s := range l {
		all = bounded(all + z.stmt(s))
	}
	return all
}

func (z sizer) stmt(s api.Stmt) int {
	body := z.stmts(s.Body)
	if s.Kind == api.Each {
		if keys, ok := z.keys(s.T); ok {
			return len(keys) * (2 + body)
		}
	}
	return 1 + exprsSize(s.Exprs) + body + z.stmts(s.Else)
}

func bounded(n int) int { return min(n, api.MaxNodes+1) }

func exprsSize(l []api.Expr) int {
	all := 0
	for _, x := range l {
		all += exprSize(x)
	}
	return all
}

func exprSize(x api.Expr) int { return 1 + exprsSize(x.Args) }
