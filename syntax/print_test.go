package syntax_test

import (
	"reflect"
	"strings"
	"testing"

	"tillage/api"
	"tillage/syntax"
)

// P2.5

func TestPrintExpressions(t *testing.T) {
	x, one := vari("x"), num(1)
	for _, c := range []struct {
		x    api.Expr
		want string
	}{
		{num(0), "0"},
		{num(api.MaxNumber), "1099511627776"},
		{str(""), `""`},
		{str("a b"), `"a b"`},
		{str("\"\\\n"), `"\"\\\n"`},
		{str("\\n\t\r\x00\xff'é"), "\"\\\\n\t\r\x00\xff'é\""},
		{x, "x"},
		{count("NR"), "NR"},
		{count("NF"), "NF"},
		{of(api.Field, one), "($1)"},
		{of(api.Field, of(api.Field, x)), "($($x))"},
		{elem("l", op(x, "..", one)), "l[(x .. 1)]"},
		{of(api.Neg, one), "(-1)"},
		{of(api.Neg, of(api.Neg, x)), "(-(-x))"},
		{of(api.Not, in(x, "l")), "(!(x in l))"},
		{in(str("k"), "l"), `("k" in l)`},
		{of(api.If, x, one, of(api.If, one, x, x)), "(x ? 1 : (1 ? x : x))"},
		{call("length", x), "length(x)"},
		{call("index", x, op(one, "+", one)), "index(x, (1 + 1))"},
		{call("substr", x, one, num(2)), "substr(x, 1, 2)"},
		{op(op(x, "-", one), "-", op(x, "*", one)), "((x - 1) - (x * 1))"},
	} {
		got, e := syntax.Print(program(when(c.x)))
		if got != c.want+" { }\n" || e != api.OK {
			t.Errorf("%q, %d, want %q", got, e, c.want)
		}
	}
	for _, s := range strings.Fields("|| && < <= == != > >= .. + - * / %") {
		if got, _ := syntax.Print(program(when(op(x, s, one)))); got != "(x "+s+" 1) { }\n" {
			t.Errorf("%s: %q", s, got)
		}
	}
}

func TestPrintStatements(t *testing.T) {
	x, one := vari("x"), num(1)
	a, b := set("x", one), prints(x)
	for _, c := range []struct {
		s    api.Stmt
		want string
	}{
		{a, "x = 1;"},
		{api.Stmt{Kind: api.Put, S: "l", Exprs: []api.Expr{x, op(x, "%", one)}}, "l[x] = (x % 1);"},
		{api.Stmt{Kind: api.Write, Exprs: []api.Expr{one, x}}, "$1 = x;"},
		{api.Stmt{Kind: api.Write, Exprs: []api.Expr{op(x, "+", one), x}}, "$(x + 1) = x;"},
		{api.Stmt{Kind: api.Write, Exprs: []api.Expr{of(api.Field, one), x}}, "$($1) = x;"},
		{prints(one), "print 1;"},
		{prints(one, x, str("t")), `print 1, x, "t";`},
		{branch(x, nil, nil), "if (x) { } else { }"},
		{branch(op(x, "<", one), []api.Stmt{a, b}, []api.Stmt{b}), "if ((x < 1)) { x = 1; print x; } else { print x; }"},
		{while(x), "while (x) { }"},
		{while(x, a, b), "while (x) { x = 1; print x; }"},
		{each("k", "l"), "for (k in l) { }"},
		{each("k", "l", branch(x, []api.Stmt{b}, nil)), "for (k in l) { if (x) { print x; } else { } }"},
		{api.Stmt{Kind: api.Delete, S: "l", Exprs: []api.Expr{str("k")}}, `delete l["k"];`},
		{load("a \"b\"\n", "l"), `load "a \"b\"\n" l;`},
		{load("", "l"), `load "" l;`},
	} {
		got, e := syntax.Print(program(begin(c.s)))
		if got != "BEGIN { "+c.want+" }\n" || e != api.OK {
			t.Errorf("%q, %d, want %q", got, e, c.want)
		}
	}
	if got, e := syntax.Print(program(main(api.Stmt{Kind: api.Next}))); got != "{ next; }\n" || e != api.OK {
		t.Errorf("next: %q, %d", got, e)
	}
}

func TestPrintRules(t *testing.T) {
	x := vari("x")
	p := program(end(prints(x)), begin(), main(prints(x), prints(x)), when(x), when(of(api.Not, x), prints(x)), begin(prints(x)))
	want := "END { print x; }\nBEGIN { }\n{ print x; print x; }\nx { }\n(!x) { print x; }\nBEGIN { print x; }\n"
	if got, e := syntax.Print(p); got != want || e != api.OK {
		t.Errorf("%q, %d, want %q", got, e, want)
	}
	if got, e := syntax.Print(program()); got != "" || e != api.OK {
		t.Errorf("no rule: %q, %d", got, e)
	}
}

// The greatest programs are printed, too, however many bytes they take.
func TestPrintGreat(t *testing.T) {
	p := program(main(prints(times(api.MaxNodes-1, str(strings.Repeat("\n", api.MaxText)))...)))
	got, e := syntax.Print(p)
	want := "{ print " + strings.TrimSuffix(strings.Repeat("\""+strings.Repeat("\\n", api.MaxText)+"\", ", api.MaxNodes-1), ", ") + "; }\n"
	if got != want || e != api.OK {
		t.Errorf("%d bytes, %d, want %d bytes", len(got), e, len(want))
	}
}

// What is printed is read as what it was.
func TestPrintRead(t *testing.T) {
	d := die(1)
	for i := range 3000 {
		p := d.program()
		s, e := syntax.Print(p)
		if e != api.OK {
			t.Fatalf("case %d: %v: Print: %d", i, p, e)
		}
		got, e := syntax.Read(s)
		if len(s) > api.MaxSource {
			if e != api.ErrSize || !reflect.DeepEqual(got, api.Program{}) {
				t.Fatalf("case %d: %d bytes: Read: %d", i, len(s), e)
			}
			continue
		}
		if e != api.OK || !same(got, p) {
			t.Fatalf("case %d: %q is read as %v, %d", i, s, got, e)
		}
	}
	for _, p := range []api.Program{
		program(when(deep(api.MaxNest))),
		program(when(deepIf(api.MaxNest))),
		program(main(blocks(api.MaxNest))),
		program(main(branch(deepIf(api.MaxNest-1), []api.Stmt{blocks(api.MaxNest - 1)}, []api.Stmt{blocks(api.MaxNest - 1)}))),
		program(main(api.Stmt{Kind: api.Write, Exprs: []api.Expr{deep(api.MaxNest - 1), deepIf(api.MaxNest - 1)}})),
	} {
		s, _ := syntax.Print(p)
		if got, e := syntax.Read(s); e != api.OK || !same(got, p) {
			t.Errorf("%q is read as %v, %d", s, got, e)
		}
	}
}

// deepIf: Ifs of that many levels, at their ends.
func deepIf(n int) api.Expr {
	if n == 1 {
		return num(1)
	}
	return of(api.If, num(1), num(2), deepIf(n-1))
}

// same: are two programs one, whether empty lists are nil or not?
func same(p, q api.Program) bool { return reflect.DeepEqual(plain(p), plain(q)) }

func plain(p api.Program) (q api.Program) {
	for _, r := range p.Rules {
		q.Rules = append(q.Rules, api.Rule{When: r.When, Has: r.Has, Pattern: plainExpr(r.Pattern), Body: plainStmts(r.Body)})
	}
	return q
}

func plainExpr(x api.Expr) api.Expr {
	x.Args = plainExprs(x.Args)
	return x
}

func plainExprs(l []api.Expr) (m []api.Expr) {
	for _, x := range l {
		m = append(m, plainExpr(x))
	}
	return m
}

func plainStmts(l []api.Stmt) (m []api.Stmt) {
	for _, s := range l {
		s.Exprs, s.Body, s.Else = plainExprs(s.Exprs), plainStmts(s.Body), plainStmts(s.Else)
		m = append(m, s)
	}
	return m
}

// die: numbers that look drawn, the same each time.
type die uint64

func (d *die) n(most int) int {
	*d = *d*6364136223846793005 + 1442695040888963407
	return int(uint64(*d>>33) % uint64(most))
}

func (d *die) of(s string) string {
	l := strings.Fields(s)
	return l[d.n(len(l))]
}

func (d *die) text() string {
	b := make([]byte, d.n(4))
	for i := range b {
		b[i] = "a\"\\\n n\t#\xff"[d.n(9)]
	}
	return string(b)
}

func (d *die) expr(n int) api.Expr {
	if n <= 0 {
		return []api.Expr{num(d.n(30)), num(api.MaxNumber), str(d.text()), vari(d.of("x y z")), count(d.of("NR NF"))}[d.n(5)]
	}
	a, b, c := d.expr(n-1), d.expr(n-2), d.expr(n-3)
	return []api.Expr{
		of(api.Field, a), elem(d.of("a b"), a), op(a, d.of("|| && < <= == != > >="), b), op(b, d.of(".. + - * / %"), a),
		of(api.Neg, a), of(api.Not, a), in(a, d.of("a b")), of(api.If, a, b, c), of(api.If, c, b, a),
		call("length", a), call("index", a, b), call("substr", c, a, b),
	}[d.n(12)]
}

func (d *die) stmts(n, when int) (l []api.Stmt) {
	for range d.n(3) {
		l = append(l, d.stmt(n, when))
	}
	return l
}

func (d *die) stmt(n, when int) api.Stmt {
	x, y := d.expr(d.n(4)), d.expr(d.n(4))
	k := d.n(7)
	if n > 0 {
		k = d.n(10)
	}
	switch k {
	case 0:
		return set(d.of("x y z"), x)
	case 1:
		return api.Stmt{Kind: api.Put, S: d.of("a b"), Exprs: []api.Expr{x, y}}
	case 2:
		return api.Stmt{Kind: api.Write, Exprs: []api.Expr{x, y}}
	case 3:
		return prints(x)
	case 4:
		return prints(x, y, x)
	case 5:
		return api.Stmt{Kind: api.Delete, S: d.of("a b"), Exprs: []api.Expr{x}}
	case 6:
		if when == api.Begin {
			return load(d.text(), d.of("a b"))
		} else if when == api.Main {
			return api.Stmt{Kind: api.Next}
		}
		return prints(y)
	case 7:
		return branch(x, d.stmts(n-1, when), d.stmts(n-1, when))
	case 8:
		return while(x, d.stmts(n-1, when)...)
	}
	return each(d.of("x y z"), d.of("a b"), d.stmts(n-1, when)...)
}

func (d *die) program() (p api.Program) {
	for range d.n(5) {
		r := api.Rule{When: d.n(3)}
		if r.When == api.Main && d.n(2) == 0 {
			r.Has, r.Pattern = true, d.expr(d.n(4))
		}
		r.Body = d.stmts(3, r.When)
		p.Rules = append(p.Rules, r)
	}
	return p
}
