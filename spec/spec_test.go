package spec_test

import (
	"fmt"
	"slices"
	"strings"
	"testing"

	"tillage/api"
	"tillage/eval"
	"tillage/spec"
	"tillage/syntax"
)

func read(t *testing.T, source string) api.Program {
	t.Helper()
	p, e := syntax.Read(source)
	if e != api.OK {
		t.Fatalf("%s: %v", source, e)
	}
	return p
}

// text of a program that may be.
func text(t *testing.T, p api.Program) string {
	t.Helper()
	s, e := syntax.Print(p)
	if e != api.OK {
		t.Fatalf("%v can't be printed: %v", p, e)
	}
	return s
}

func times[T any](n int, x T) []T { return slices.Repeat([]T{x}, n) }

func named(names ...string) []api.File {
	var l []api.File
	for _, n := range names {
		l = append(l, api.File{Name: n})
	}
	return l
}

// tab: a file of lines, cut at |.
func tab(lines string) []api.File {
	return []api.File{{Name: "tab", Lines: strings.Split(lines, "|")}}
}

func numbers(n int) []api.File {
	f := api.File{Name: "tab"}
	for i := range n {
		f.Lines = append(f.Lines, fmt.Sprint(i))
	}
	return []api.File{f}
}

func num(n int) api.Expr { return api.Expr{Kind: api.Num, N: n} }

func variable(name string) api.Expr { return api.Expr{Kind: api.Var, S: name} }

func show(l ...api.Expr) api.Stmt { return api.Stmt{Kind: api.Print, Exprs: l} }

func program(rules ...api.Rule) api.Program { return api.Program{Rules: rules} }

func mainRule(l ...api.Stmt) api.Rule { return api.Rule{When: api.Main, Body: l} }

// deep: an expression under so many Nots.
func deep(n int, x api.Expr) api.Expr {
	for range n {
		x = api.Expr{Kind: api.Not, Args: []api.Expr{x}}
	}
	return x
}

// P4.1: what is refused, in which order.
func TestRefuses(t *testing.T) {
	good, bad := read(t, "{ print 1; }"), program(api.Rule{When: 3})
	stuck := read(t, "BEGIN { x = 1 / 0; }")
	twice := named("a", "a")
	for _, c := range []struct {
		what  string
		p     api.Program
		files []api.File
		fuel  int
		want  api.Errno
	}{
		{"no such When", bad, nil, 1, api.ErrKind},
		{"too many rules", api.Program{Rules: times(api.MaxRules+1, api.Rule{})}, nil, 1, api.ErrSize},
		{"a Pattern that is not there", program(api.Rule{When: api.Main, Pattern: num(1)}), nil, 1, api.ErrForm},
		{"a list that is a variable", program(mainRule(show(variable("a")), api.Stmt{Kind: api.Delete, S: "a",
			Exprs: []api.Expr{num(1)}})), nil, 1, api.ErrType},
		{"parts that hold themselves", endless(), nil, 1, api.ErrSize},
		{"two files of a name", good, twice, 1, api.ErrTwice},
		{"too many files", good, named(strings.Split("a b c d e f g h i", " ")...), 1, api.ErrSize},
		{"a file that is too long", good, []api.File{{Lines: times(api.MaxKeys+1, "")}}, 1, api.ErrSize},
		{"a line of a file with a line feed", good, tab("a\n"), 1, api.ErrForm},
		{"fuel below 0", good, nil, -1, api.ErrRange},
		{"too much fuel", good, nil, api.MaxFuel + 1, api.ErrRange},
		{"rules of Begin that end otherwise", stuck, nil, 100, api.ErrStop},
		{"the program ahead of files", bad, twice, -1, api.ErrKind},
		{"files ahead of fuel", stuck, twice, -1, api.ErrTwice},
		{"fuel ahead of rules of Begin", stuck, nil, -1, api.ErrRange},
		{"rules of Begin ahead of what is too great", read(t, "BEGIN { while (1) { print 1; } }"), nil, api.MaxFuel,
			api.ErrStop},
	} {
		q, e := spec.Spec(c.p, c.files, c.fuel)
		if e != c.want || len(q.Rules) != 0 {
			t.Errorf("%s: %v %v, want %v alone", c.what, q, e, c.want)
		}
	}
}

// endless: a program with a statement that is its own Body.
func endless() api.Program {
	body := []api.Stmt{{Kind: api.While, Exprs: []api.Expr{num(1)}}}
	body[0].Body = body
	return program(api.Rule{Body: body})
}

// P4.1: the rules of Begin, and they alone, must come to their end with the fuel.
func TestStops(t *testing.T) {
	for _, c := range []struct {
		source string
		fuel   int
		want   api.Errno
	}{
		{"", 0, api.OK},
		{"{ x = 1 / 0; while (1) { x = 1; } } END { print $(-1); }", 0, api.OK},
		{"BEGIN { }", 0, api.ErrStop},
		{"BEGIN { }", 1, api.OK},
		{"BEGIN { } { x = 1; } BEGIN { } END { x = 2; }", 1, api.ErrStop},
		{"BEGIN { } { x = 1; } BEGIN { } END { x = 2; }", 2, api.OK},
		{"BEGIN { load \"tab\" a; for (k in a) { x = x .. k; } }", 6, api.ErrStop},
		{"BEGIN { load \"tab\" a; for (k in a) { x = x .. k; } }", 7, api.OK},
		{"BEGIN { while (1) { } }", api.MaxFuel, api.ErrStop},
		{"BEGIN { load \"no\" a; }", 9, api.ErrStop},
		{"BEGIN { x = 1 / 0; }", 9, api.ErrStop},
		{"BEGIN { x = \"9999999999999\" + 1; }", 9, api.ErrStop},
		{"BEGIN { x = $(-1); }", 9, api.ErrStop},
		{"BEGIN { x = 1 ? 2 : 1 / 0; }", 9, api.OK},
		{"", api.MaxFuel, api.OK},
	} {
		q, e := spec.Spec(read(t, c.source), tab("a|b"), c.fuel)
		if e != c.want || e != api.OK && len(q.Rules) != 0 {
			t.Errorf("%s with %d: %v %v, want %v", c.source, c.fuel, q, e, c.want)
		}
	}
}

// P4.1: a program that is too great is refused, and one that is as great as may be is not.
func TestTooGreat(t *testing.T) {
	lines := func(n int, rest string) string {
		return fmt.Sprintf("BEGIN { while (i < %d) { print i; i = i + 1; } } %s", n, rest)
	}
	nested := func(n int) api.Program {
		x := api.Stmt{Kind: api.Set, S: "x", Exprs: []api.Expr{{Kind: api.Neg, Args: []api.Expr{num(1)}}}}
		return program(api.Rule{Body: []api.Stmt{x}}, mainRule(show(deep(n, api.Expr{Kind: api.Field,
			Args: []api.Expr{variable("x")}}))))
	}
	for _, c := range []struct {
		what string
		p    api.Program
		want api.Errno
	}{
		{"2000 lines are 4000 expressions and statements", read(t, lines(2000, "")), api.OK},
		{"and no more", read(t, lines(2000, "{ next; }")), api.ErrSize},
		{"but a rule is none", read(t, lines(2000, "{ } END { }")), api.OK},
		{"1999 lines and two more", read(t, lines(1999, "{ print 1; }")), api.OK},
		{"1999 lines and three more", read(t, lines(1999, "{ print 1, 2; }")), api.ErrSize},
		{"what is left out does not count", read(t, lines(2000, "0 { print 1; } { } END { if (x) { print 2; } }")), api.OK},
		{"a number below 0 is one deeper", nested(api.MaxNest - 4), api.OK},
		{"and then it is too deep", nested(api.MaxNest - 3), api.ErrSize},
	} {
		q, e := spec.Spec(c.p, nil, api.MaxFuel)
		if e != c.want || e == api.OK && syntax.Check(q) != api.OK || e != api.OK && len(q.Rules) != 0 {
			t.Errorf("%s: %v %v, want %v", c.what, q, e, c.want)
		}
	}
}

// Far more keys than can be put are no reason to take long.
func TestTooManyKeys(t *testing.T) {
	var load, ask []api.Stmt
	for i := range 900 {
		name := letters(i)
		load = append(load, api.Stmt{Kind: api.Load, S: name, T: "tab"})
		ask = append(ask, show(api.Expr{Kind: api.Elem, S: name, Args: []api.Expr{{Kind: api.Count, S: "NR"}}}))
	}
	q, e := spec.Spec(program(api.Rule{Body: load}, mainRule(ask...)), numbers(api.MaxKeys), api.MaxFuel)
	if e != api.ErrSize || len(q.Rules) != 0 {
		t.Errorf("%v, want %v", e, api.ErrSize)
	}
}

// letters: a name, for each number another one.
func letters(n int) string {
	s := ""
	for range 5 {
		s += string(rune('a' + n%26))
		n /= 26
	}
	return s
}

// P4.1: what is small, and has no rule of Begin, is never too great: as deep as 20 expressions and statements can be.
func TestSmallIsNeverTooGreat(t *testing.T) {
	leaf := []api.Expr{num(1), {Kind: api.Str, S: strings.Repeat("a", 60)}, variable("x"), {Kind: api.Count, S: "NR"},
		{Kind: api.Elem, S: "l", Args: []api.Expr{num(2)}}}
	around := []func(x api.Expr) api.Expr{
		func(x api.Expr) api.Expr { return deep(1, x) },
		func(x api.Expr) api.Expr { return api.Expr{Kind: api.Neg, Args: []api.Expr{x}} },
		func(x api.Expr) api.Expr { return api.Expr{Kind: api.Op, S: "&&", Args: []api.Expr{num(1), x}} },
		func(x api.Expr) api.Expr { return api.Expr{Kind: api.Op, S: "||", Args: []api.Expr{variable("x"), x}} },
		func(x api.Expr) api.Expr { return api.Expr{Kind: api.Op, S: "-", Args: []api.Expr{x, num(1)}} },
		func(x api.Expr) api.Expr { return api.Expr{Kind: api.Op, S: "..", Args: []api.Expr{x, x}} },
		func(x api.Expr) api.Expr { return api.Expr{Kind: api.If, Args: []api.Expr{variable("x"), num(1), x}} },
	}
	d := die(11)
	for range 3000 {
		x := leaf[d.n(len(leaf))]
		for {
			y := around[d.n(len(around))](x)
			if nodes(y) > 19 {
				break
			}
			x = y
		}
		p := program(mainRule(show(x)), api.Rule{When: api.End})
		if d.n(2) == 0 {
			p = program(api.Rule{When: api.Main, Has: true, Pattern: x})
		}
		q, e := spec.Spec(p, nil, 0)
		if e != api.OK || syntax.Check(q) != api.OK {
			t.Fatalf("%s: %v", text(t, p), e)
		}
	}
}

func nodes(x api.Expr) int {
	n := 1
	for _, y := range x.Args {
		n += nodes(y)
	}
	return n
}

// P4.1: the chapter's example of the whole, as a text.
func TestExampleOfTheWhole(t *testing.T) {
	p := read(t, "BEGIN { load \"tab\" a; n = 2 * 3; }\n$1 in a { print a[$1], n; }\nn > 6 { print \"never\"; }")
	q, e := spec.Spec(p, tab("one|two"), 100)
	want := "BEGIN { a[\"1\"] = \"one\"; a[\"2\"] = \"two\"; }\n(($1) in a) { print a[($1)], 6; }\n"
	if got := text(t, q); e != api.OK || got != want {
		t.Errorf("%v: %s\nwant %s", e, got, want)
	}
	o, e := eval.Run(q, nil, []string{"1", "x"}, 100)
	if e != api.OK || o.End != api.Done || !slices.Equal(o.Lines, []string{"one 6"}) {
		t.Errorf("%v %v", o, e)
	}
}

// P4.1: what is made does as much as the first one with 4000 units more, though it has more to do ahead.
func TestFuel(t *testing.T) {
	for _, source := range []string{
		"BEGIN { load \"tab\" a; load \"tab\" b; load \"tab\" c; } { print a[NR], b[NR], c[NR]; }",
		"BEGIN { load \"tab\" a; } { for (k in a) { if (k == NR) { print k; } } }",
		"BEGIN { while (i < 1990) { print i; i = i + 1; } }",
		"{ print NR; x = x + 1; } END { print x; while (x > 0) { x = x - 1; } }",
	} {
		p := read(t, source)
		q, e := spec.Spec(p, numbers(api.MaxKeys), api.MaxFuel)
		if e != api.OK {
			t.Fatalf("%s: %v", source, e)
		}
		lines := []string{"a", "b", ""}
		x, _ := eval.Run(p, numbers(api.MaxKeys), lines, 100000)
		y, _ := eval.Run(q, nil, lines, x.Used+4000)
		if x.End != api.Done || y.End != x.End || !slices.Equal(x.Lines, y.Lines) {
			t.Errorf("%s: ends %d with %d units, %d with 4000 more", source, x.End, x.Used, y.End)
		}
	}
}
