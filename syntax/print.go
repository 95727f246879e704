package syntax

import (
	"strconv"
	"strings"

	"tillage/api"
)

func ruleText(r api.Rule) string {
	switch {
	case r.When == api.Begin:
		return "BEGIN " + blockText(r.Body)
	case r.When == api.End:
		return "END " + blockText(r.Body)
	case r.Has:
		return exprText(r.Pattern) + " " + blockText(r.Body)
	}
	return blockText(r.Body)
}

func blockText(l []api.Stmt) string {
	var b strings.Builder
	b.WriteString("{ ")
	for _, s := range l {
		b.WriteString(stmtText(s))
		b.WriteString(" ")
	}
	b.WriteString("}")
	return b.String()
}

func stmtText(s api.Stmt) string {
	switch s.Kind {
	case api.Set:
		return s.S + " = " + exprText(s.Exprs[0]) + ";"
	case api.Put:
		return elemText(s.S, s.Exprs[0]) + " = " + exprText(s.Exprs[1]) + ";"
	case api.Write:
		return "$" + exprText(s.Exprs[0]) + " = " + exprText(s.Exprs[1]) + ";"
	case api.Print:
		return "print " + exprsText(s.Exprs) + ";"
	case api.Branch:
		return "if (" + exprText(s.Exprs[0]) + ") " + blockText(s.Body) + " else " + blockText(s.Else)
	case api.While:
		return "while (" + exprText(s.Exprs[0]) + ") " + blockText(s.Body)
	case api.Each:
		return "for (" + s.S + " in " + s.T + ") " + blockText(s.Body)
	case api.Next:
		return "next;"
	case api.Delete:
		return "delete " + elemText(s.S, s.Exprs[0]) + ";"
	}
	return "load " + quoted(s.T) + " " + s.S + ";"
}

func exprText(x api.Expr) string {
	switch x.Kind {
	case api.Num:
		return strconv.Itoa(x.N)
	case api.Str:
		return quoted(x.S)
	case api.Field:
		return "($" + exprText(x.Args[0]) + ")"
	case api.Elem:
		return elemText(x.S, x.Args[0])
	case api.Op:
		return "(" + exprText(x.Args[0]) + " " + x.S + " " + exprText(x.Args[1]) + ")"
	case api.Neg:
		return "(-" + exprText(x.Args[0]) + ")"
	case api.Not:
		return "(!" + exprText(x.Args[0]) + ")"
	case api.In:
		return "(" + exprText(x.Args[0]) + " in " + x.S + ")"
	case api.If:
		return "(" + exprText(x.Args[0]) + " ? " + exprText(x.Args[1]) + " : " + exprText(x.Args[2]) + ")"
	case api.Call:
		return x.S + "(" + exprsText(x.Args) + ")"
	}
	return x.S
}

func exprsText(l []api.Expr) string {
	texts := make([]string, len(l))
	for i, x := range l {
		texts[i] = exprText(x)
	}
	return strings.Join(texts, ", ")
}

func elemText(name string, key api.Expr) string { return name + "[" + exprText(key) + "]" }

func quoted(s string) string {
	var b strings.Builder
	b.WriteByte('"')
	for i := range len(s) {
		switch s[i] {
		case '"', '\\':
			b.WriteByte('\\')
			b.WriteByte(s[i])
		case '\n':
			b.WriteString(`\n`)
		default:
			b.WriteByte(s[i])
		}
	}
	b.WriteByte('"')
	return b.String()
}
