package syntax_test

import (
	"math"
	"slices"
	"strings"
	"testing"

	"tillage/api"
	"tillage/syntax"
)

// Short ways to write programs.

func num(n int) api.Expr                  { return api.Expr{Kind: api.Num, N: n} }
func str(s string) api.Expr               { return api.Expr{Kind: api.Str, S: s} }
func vari(s string) api.Expr              { return api.Expr{Kind: api.Var, S: s} }
func count(s string) api.Expr             { return api.Expr{Kind: api.Count, S: s} }
func of(kind int, l ...api.Expr) api.Expr { return api.Expr{Kind: kind, Args: l} }
func elem(s string, key api.Expr) api.Expr {
	return api.Expr{Kind: api.Elem, S: s, Args: []api.Expr{key}}
}
func in(key api.Expr, s string) api.Expr { return api.Expr{Kind: api.In, S: s, Args: []api.Expr{key}} }
func op(a api.Expr, s string, b api.Expr) api.Expr {
	return api.Expr{Kind: api.Op, S: s, Args: []api.Expr{a, b}}
}
func call(s string, l ...api.Expr) api.Expr { return api.Expr{Kind: api.Call, S: s, Args: l} }

func set(s string, x api.Expr) api.Stmt { return api.Stmt{Kind: api.Set, S: s, Exprs: []api.Expr{x}} }
func prints(l ...api.Expr) api.Stmt     { return api.Stmt{Kind: api.Print, Exprs: l} }
func each(s, t string, body ...api.Stmt) api.Stmt {
	return api.Stmt{Kind: api.Each, S: s, T: t, Body: body}
}
func load(t, s string) api.Stmt { return api.Stmt{Kind: api.Load, S: s, T: t} }
func while(x api.Expr, body ...api.Stmt) api.Stmt {
	return api.Stmt{Kind: api.While, Exprs: []api.Expr{x}, Body: body}
}
func branch(x api.Expr, yes, no []api.Stmt) api.Stmt {
	return api.Stmt{Kind: api.Branch, Exprs: []api.Expr{x}, Body: yes, Else: no}
}

func begin(l ...api.Stmt) api.Rule { return api.Rule{When: api.Begin, Body: l} }
func main(l ...api.Stmt) api.Rule  { return api.Rule{When: api.Main, Body: l} }
func end(l ...api.Stmt) api.Rule   { return api.Rule{When: api.End, Body: l} }
func when(x api.Expr, l ...api.Stmt) api.Rule {
	return api.Rule{When: api.Main, Has: true, Pattern: x, Body: l}
}
func program(l ...api.Rule) api.Program { return api.Program{Rules: l} }

func long(n int) string { return strings.Repeat("x", n) }

// refuses: what Check says of a program; Print says the same.
func refuses(t *testing.T, what string, p api.Program, want api.Errno) {
	t.Helper()
	if e := syntax.Check(p); e != want {
		t.Errorf("%s: Check: %d, want %d", what, e, want)
	}
	if s, e := syntax.Print(p); e != want || e != api.OK && s != "" {
		t.Errorf("%s: Print: %q, %d, want %d", what, s, e, want)
	}
}

// P2.1

func TestName(t *testing.T) {
	for _, s := range []string{"a", "z", "xyz", "abcdefgh", "begin", "end", "nr", "nf", "printx", "inn", "i", "lengthx", "loads"} {
		if !syntax.Name(s) {
			t.Errorf("Name(%q): false", s)
		}
	}
	words := strings.Fields("BEGIN END print if else while for in next delete load length substr index NR NF")
	for _, s := range append(words, "", "abcdefghi", long(1000), "A", "aB", "Za", "a1", "1", "a_b", "a b", " a", "a\n", "a`", "a{", "ä", "aé", "\x00", "$", "x\xff") {
		if syntax.Name(s) {
			t.Errorf("Name(%q): true", s)
		}
	}
}

// P2.2

func TestExpressions(t *testing.T) {
	x, one := vari("x"), num(1)
	good := []api.Expr{
		num(0), num(7), num(api.MaxNumber), str(""), str("a\nb\"\\\x00\xff"), str(long(api.MaxText)),
		x, vari("abcdefgh"), of(api.Field, one), elem("l", one), of(api.Neg, x), of(api.Not, x), in(x, "l"),
		of(api.If, x, one, str("t")), count("NR"), count("NF"),
		call("length", x), call("index", x, x), call("substr", x, one, one),
		{Kind: api.Num, N: 1, Args: []api.Expr{}},
	}
	for _, s := range strings.Fields("|| && < <= == != > >= .. + - * / %") {
		good = append(good, op(x, s, one))
	}
	for _, y := range good {
		refuses(t, "good expression", program(when(y)), api.OK)
		refuses(t, "good expression", program(end(prints(x, of(api.Not, y)))), api.OK)
	}

	// Of every kind, one Arg more than it has, or one less.
	for _, y := range good {
		more := y
		more.Args = append(slices.Clone(y.Args), one)
		refuses(t, "one Arg more", program(when(more)), api.ErrForm)
		if len(y.Args) > 0 {
			y.Args = y.Args[1:]
			refuses(t, "one Arg less", program(when(y)), api.ErrForm)
		}
	}
	// Of every kind but a Num, an N.
	for _, y := range good {
		for _, n := range []int{1, -1, api.MaxNumber + 1, math.MinInt} {
			if y.N = n; y.Kind != api.Num {
				refuses(t, "an N", program(when(y)), api.ErrForm)
			}
		}
	}
	for _, c := range []struct {
		x    api.Expr
		want api.Errno
	}{
		{api.Expr{}, api.ErrKind},
		{api.Expr{Kind: -1}, api.ErrKind},
		{api.Expr{Kind: 13}, api.ErrKind},
		{api.Expr{Kind: math.MaxInt}, api.ErrKind},
		{api.Expr{Kind: math.MinInt}, api.ErrKind},
		{num(-1), api.ErrRange},
		{num(api.MaxNumber + 1), api.ErrRange},
		{num(math.MinInt), api.ErrRange},
		{api.Expr{Kind: api.Num, S: "1"}, api.ErrForm},
		{api.Expr{Kind: api.Num, S: "1", N: -1}, api.ErrForm},
		{str(long(api.MaxText + 1)), api.ErrSize},
		{vari(""), api.ErrForm},
		{vari("NR"), api.ErrForm},
		{vari("print"), api.ErrForm},
		{vari("abcdefghi"), api.ErrForm},
		{elem("", one), api.ErrForm},
		{elem("in", one), api.ErrForm},
		{in(one, "X"), api.ErrForm},
		{in(one, ""), api.ErrForm},
		{op(one, "", one), api.ErrForm},
		{op(one, "in", one), api.ErrForm},
		{op(one, "=", one), api.ErrForm},
		{op(one, "!", one), api.ErrForm},
		{op(one, "+ ", one), api.ErrForm},
		{call("", one), api.ErrForm},
		{call(""), api.ErrForm},
		{call("x", one), api.ErrForm},
		{call("x"), api.ErrForm},
		{call("print", one), api.ErrForm},
		{call("length", one, one), api.ErrForm},
		{call("index", one, one, one), api.ErrForm},
		{call("substr", one, one), api.ErrForm},
		{count(""), api.ErrForm},
		{count("x"), api.ErrForm},
		{count("nr"), api.ErrForm},
		{api.Expr{Kind: api.Field, S: "x", Args: []api.Expr{one}}, api.ErrForm},
		{api.Expr{Kind: api.Neg, S: "-", Args: []api.Expr{one}}, api.ErrForm},
		{api.Expr{Kind: api.Not, S: "!", Args: []api.Expr{one}}, api.ErrForm},
		{api.Expr{Kind: api.If, S: "?", Args: []api.Expr{one, one, one}}, api.ErrForm},
	} {
		refuses(t, c.x.S, program(when(c.x)), c.want)
		refuses(t, c.x.S, program(end(prints(one, of(api.Neg, c.x)))), c.want)
	}
}

// P2.3

func TestStatements(t *testing.T) {
	x, one := vari("x"), num(1)
	next := api.Stmt{Kind: api.Next}
	good := []api.Stmt{
		set("x", one),
		{Kind: api.Put, S: "l", Exprs: []api.Expr{x, one}},
		{Kind: api.Write, Exprs: []api.Expr{x, one}},
		prints(one), prints(one, x, one, one),
		branch(x, nil, nil), branch(x, []api.Stmt{next}, nil), branch(x, nil, []api.Stmt{next}),
		while(x), while(x, next),
		each("k", "l"), each("k", "l", next),
		next,
		{Kind: api.Delete, S: "l", Exprs: []api.Expr{x}},
		{Kind: api.Next, Exprs: []api.Expr{}, Body: []api.Stmt{}, Else: []api.Stmt{}},
	}
	for _, s := range good {
		refuses(t, "good statement", program(main(s)), api.OK)
	}
	file := load("a file\n", "l")
	for _, s := range []api.Stmt{file, load("", "l"), load(long(api.MaxText), "l")} {
		refuses(t, "good load", program(begin(s)), api.OK)
		refuses(t, "good load", program(begin(while(one, s))), api.OK)
	}

	// What a statement must not have; each is asked ahead of its names, and of where it is.
	for _, s := range append(slices.Clone(good), file) {
		more := s
		more.Exprs = append(slices.Clone(s.Exprs), one)
		if s.Kind != api.Print {
			refuses(t, "one of Exprs more", program(main(more)), api.ErrForm)
		}
		less := s
		if len(s.Exprs) > 0 {
			less.Exprs = s.Exprs[len(s.Exprs)-1:][1:]
			refuses(t, "none of Exprs", program(main(less)), api.ErrForm)
		}
		body := s
		body.Body = []api.Stmt{prints(one)}
		if s.Kind != api.Branch && s.Kind != api.While && s.Kind != api.Each {
			refuses(t, "a Body", program(main(body)), api.ErrForm)
		}
		other := s
		other.Else = []api.Stmt{prints(one)}
		if s.Kind != api.Branch {
			refuses(t, "an Else", program(main(other)), api.ErrForm)
		}
	}
	// Texts that a statement must not have.
	for _, s := range good {
		if s.S == "" {
			s.S = "x"
			refuses(t, "an S", program(main(s)), api.ErrForm)
			s.S = ""
		} else {
			for _, no := range []string{"", "for", "NR", "X", "abcdefghi"} {
				wrong := s
				wrong.S = no
				refuses(t, "S that is no name", program(main(wrong)), api.ErrForm)
			}
		}
		if s.T == "" {
			s.T = "x"
			refuses(t, "a T", program(main(s)), api.ErrForm)
		}
	}
	for _, c := range []struct {
		s    api.Stmt
		want api.Errno
	}{
		{api.Stmt{}, api.ErrKind},
		{api.Stmt{Kind: -1}, api.ErrKind},
		{api.Stmt{Kind: 11}, api.ErrKind},
		{api.Stmt{Kind: math.MaxInt}, api.ErrKind},
		{api.Stmt{Kind: math.MinInt}, api.ErrKind},
		{prints(), api.ErrForm},
		{api.Stmt{Kind: api.Put, S: "l", Exprs: []api.Expr{one}}, api.ErrForm},
		{api.Stmt{Kind: api.Write, Exprs: []api.Expr{one}}, api.ErrForm},
		{each("k", ""), api.ErrForm},
		{each("k", "in"), api.ErrForm},
		{each("", "l"), api.ErrForm},
		{load("t", ""), api.ErrForm},
		{load("t", "END"), api.ErrForm},
		{load(long(api.MaxText+1), "l"), api.ErrSize},
	} {
		refuses(t, "wrong statement", program(begin(c.s)), c.want)
		refuses(t, "wrong statement", program(begin(branch(one, nil, []api.Stmt{c.s}))), c.want)
	}
}

// P2.4

// deep: an expression of that many levels.
func deep(n int) api.Expr {
	x := num(1)
	for range n - 1 {
		x = of(api.Neg, x)
	}
	return x
}

// blocks: a statement of that many levels, the last one an Each.
func blocks(n int) api.Stmt {
	s := each("k", "l")
	for range n - 1 {
		s = each("k", "l", s)
	}
	return s
}

// times: that many Exprs.
func times(n int, x api.Expr) []api.Expr { return slices.Repeat([]api.Expr{x}, n) }

func TestCheckRules(t *testing.T) {
	rules := func(n int, r api.Rule) api.Program { return program(slices.Repeat([]api.Rule{r}, n)...) }
	wrong := api.Rule{When: 3}
	for _, c := range []struct {
		what string
		p    api.Program
		want api.Errno
	}{
		{"none", program(), api.OK},
		{"most rules", rules(api.MaxRules, main()), api.OK},
		{"one rule more", rules(api.MaxRules+1, main()), api.ErrSize},
		{"one rule more, that are wrong", rules(api.MaxRules+1, wrong), api.ErrSize},
		{"when", program(wrong), api.ErrKind},
		{"when below", program(api.Rule{When: -1}), api.ErrKind},
		{"when ahead of pattern", program(api.Rule{When: 3, Has: true}), api.ErrKind},
		{"when ahead of body", program(api.Rule{When: 3, Body: []api.Stmt{{}}}), api.ErrKind},
		{"pattern of begin", program(api.Rule{Has: true, Pattern: num(1)}), api.ErrForm},
		{"pattern of end", program(api.Rule{When: api.End, Has: true, Pattern: num(1)}), api.ErrForm},
		{"wrong pattern of end", program(api.Rule{When: api.End, Has: true}), api.ErrForm},
		{"wrong pattern", program(when(api.Expr{})), api.ErrKind},
		{"pattern ahead of body", program(when(num(-1), api.Stmt{})), api.ErrRange},
		{"no pattern, with a kind", program(api.Rule{When: api.Main, Pattern: api.Expr{Kind: 1}}), api.ErrForm},
		{"no pattern, with an N", program(api.Rule{When: api.Main, Pattern: api.Expr{N: 1}}), api.ErrForm},
		{"no pattern, with an S", program(api.Rule{Pattern: api.Expr{S: "a"}}), api.ErrForm},
		{"no pattern, with Args", program(api.Rule{When: api.End, Pattern: api.Expr{Args: times(1, num(1))}}), api.ErrForm},
		{"no pattern, ahead of body", program(api.Rule{Pattern: num(1), Body: []api.Stmt{{}}}), api.ErrForm},
		{"no pattern, with an empty list", program(api.Rule{Pattern: api.Expr{Args: []api.Expr{}}}), api.OK},
		{"first rule ahead of second", program(main(api.Stmt{}), wrong, api.Rule{Has: true}), api.ErrKind},
		{"second rule", program(main(set("x", num(1))), when(vari("x")), end(prints())), api.ErrForm},
	} {
		refuses(t, c.what, c.p, c.want)
	}
}

func TestCheckSizes(t *testing.T) {
	one := num(1)
	half := prints(times(api.MaxNodes/2-1, one)...) // with itself half of what may be
	for _, c := range []struct {
		what string
		p    api.Program
		want api.Errno
	}{
		{"deepest pattern", program(when(deep(api.MaxNest))), api.OK},
		{"deeper pattern", program(when(deep(api.MaxNest + 1))), api.ErrSize},
		{"deepest expression", program(main(prints(deep(api.MaxNest - 1)))), api.OK},
		{"deeper expression", program(main(prints(deep(api.MaxNest)))), api.ErrSize},
		{"deepest in a key", program(main(set("x", elem("l", deep(api.MaxNest-2))))), api.OK},
		{"deeper in a key", program(main(set("x", elem("l", deep(api.MaxNest-1))))), api.ErrSize},
		{"deepest statements", program(main(blocks(api.MaxNest))), api.OK},
		{"deeper statements", program(main(blocks(api.MaxNest + 1))), api.ErrSize},
		{"deepest in Else", program(main(branch(one, nil, []api.Stmt{blocks(api.MaxNest - 1)}))), api.OK},
		{"deeper in Else", program(main(branch(one, nil, []api.Stmt{blocks(api.MaxNest)}))), api.ErrSize},
		{"a deeper one that is wrong", program(when(of(api.Neg, deepWrong(api.MaxNest)))), api.ErrSize},
		{"a deepest one that is wrong", program(when(deepWrong(api.MaxNest))), api.ErrKind},
		{"most nodes", program(main(half, half)), api.OK},
		{"one node more, a statement", program(main(half, half, api.Stmt{Kind: api.Next})), api.ErrSize},
		{"one node more, a wrong one", program(main(half), main(half), end(api.Stmt{})), api.ErrSize},
		{"one node more, an expression", program(main(half), end(half), main(), when(vari("END"))), api.ErrSize},
		{"the last node that may be, a wrong one", program(main(half, prints(append(times(api.MaxNodes/2-2, one), api.Expr{})...))), api.ErrKind},
		{"one node more behind a wrong one", program(main(half, prints(), half, half)), api.ErrForm},
		{"far more", program(main(prints(times(100000, one)...))), api.ErrSize},
		{"patterns count", program(when(one, half), when(one, half)), api.ErrSize},
	} {
		refuses(t, c.what, c.p, c.want)
	}
}

// deepWrong: as deep, but there is no such Kind as that of the last one.
func deepWrong(n int) api.Expr {
	if n == 1 {
		return api.Expr{}
	}
	return of(api.Neg, deepWrong(n-1))
}

func TestCheckParts(t *testing.T) {
	one := num(1)
	tooLong := load(long(api.MaxText+1), "l")
	for _, c := range []struct {
		what string
		p    api.Program
		want api.Errno
	}{
		{"Kind ahead of all else", program(when(api.Expr{Kind: 13, N: 1, S: "a", Args: times(9, one)})), api.ErrKind},
		{"Args ahead of what is in them", program(when(of(api.Neg, api.Expr{}, one))), api.ErrForm},
		{"S ahead of Args", program(when(elem("l", elem("in", num(-1))))), api.ErrForm},
		{"N ahead of Args", program(when(op(num(-1), "+", api.Expr{}))), api.ErrRange},
		{"Args from left to right", program(when(op(api.Expr{}, "+", num(-1)))), api.ErrKind},
		{"an Arg of an Arg ahead of the next", program(when(op(of(api.Neg, num(-1)), "+", api.Expr{}))), api.ErrRange},
		{"Exprs ahead of Body", program(main(while(num(-1), api.Stmt{}))), api.ErrRange},
		{"Body ahead of Else", program(main(branch(one, []api.Stmt{prints()}, []api.Stmt{{}}))), api.ErrForm},
		{"Else", program(main(branch(one, []api.Stmt{prints(one)}, []api.Stmt{{}}))), api.ErrKind},
		{"Else ahead of the next", program(main(branch(one, nil, []api.Stmt{{}}), prints())), api.ErrKind},
		{"statements from first to last", program(main(prints(one), prints(), api.Stmt{})), api.ErrForm},

		{"variable, list", program(when(op(vari("a"), "+", elem("a", one)))), api.ErrType},
		{"list, variable", program(when(op(in(one, "a"), "+", vari("a")))), api.ErrType},
		{"in the whole program", program(begin(set("a", one)), end(prints(in(one, "a")))), api.ErrType},
		{"list by load, variable by set", program(begin(load("t", "a"), set("a", one))), api.ErrType},
		{"list by put", program(begin(api.Stmt{Kind: api.Put, S: "a", Exprs: times(2, one)}, set("a", one))), api.ErrType},
		{"list by delete", program(begin(set("a", one), api.Stmt{Kind: api.Delete, S: "a", Exprs: times(1, one)})), api.ErrType},
		{"variable by each", program(main(each("a", "l")), main(prints(elem("a", one)))), api.ErrType},
		{"list by each", program(main(each("k", "a")), main(prints(vari("a")))), api.ErrType},
		{"each over itself", program(main(each("a", "a"))), api.ErrType},
		{"S ahead of T", program(main(prints(elem("a", one)), each("a", "in"))), api.ErrType},
		{"S that is no name ahead of T", program(main(prints(vari("l")), each("in", "l"))), api.ErrForm},
		{"list of an elem in its own key", program(when(elem("a", vari("a")))), api.ErrType},
		{"type ahead of Exprs", program(main(prints(elem("a", one)), set("a", num(-1)))), api.ErrType},
		{"form ahead of type", program(begin(set("a", one)), begin(api.Stmt{Kind: api.Delete, S: "a"})), api.ErrForm},
		{"type of S ahead of a T", program(main(prints(elem("a", one)), api.Stmt{Kind: api.Set, S: "a", T: "a", Exprs: times(1, one)})), api.ErrType},
		{"no type of texts", program(begin(prints(str("a"), count("NR"), elem("a", str("a"))), load("a", "a"))), api.OK},

		{"load in begin", program(begin(load("t", "a"))), api.OK},
		{"load in a loop of begin", program(begin(while(one, branch(one, nil, []api.Stmt{load("t", "a")})))), api.OK},
		{"load in main", program(main(load("t", "a"))), api.ErrUse},
		{"load in end", program(begin(), end(while(one, load("t", "a")))), api.ErrUse},
		{"load: use behind S", program(main(load("t", "in"))), api.ErrForm},
		{"load: use behind type of S", program(when(vari("a"), load("t", "a"))), api.ErrType},
		{"load: use ahead of T", program(main(tooLong)), api.ErrUse},
		{"load: T", program(begin(tooLong)), api.ErrSize},

		{"next in main", program(main(api.Stmt{Kind: api.Next})), api.OK},
		{"next in begin", program(begin(api.Stmt{Kind: api.Next})), api.ErrUse},
		{"next in end", program(main(), end(while(one, api.Stmt{Kind: api.Next}))), api.ErrUse},
		{"next: form ahead of use", program(end(api.Stmt{Kind: api.Next, T: "a"})), api.ErrForm},
		{"next: body ahead of use", program(end(api.Stmt{Kind: api.Next, Body: []api.Stmt{{}}})), api.ErrForm},
	} {
		refuses(t, c.what, c.p, c.want)
	}
}

// Parts that hold themselves have no end; Check has one.
func TestCheckEnds(t *testing.T) {
	args := times(1, of(api.Neg, num(1)))
	args[0].Args = args
	refuses(t, "an Arg that holds itself", program(when(of(api.Not, args...))), api.ErrSize)
	two := []api.Expr{op(num(1), "+", num(1)), op(num(1), "+", num(1))}
	two[0].Args, two[1].Args = two, two
	refuses(t, "two that hold both", program(when(api.Expr{Kind: api.Op, S: "+", Args: two})), api.ErrSize)
	body := []api.Stmt{each("k", "l")}
	body[0].Body = body
	refuses(t, "a Body that holds itself", program(main(body...)), api.ErrSize)
}
