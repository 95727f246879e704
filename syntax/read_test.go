package syntax_test

import (
	"reflect"
	"strconv"
	"strings"
	"testing"

	"tillage/api"
	"tillage/syntax"
)

// P2.6

// reads: what Read says of a text.
func reads(t *testing.T, s string, want api.Program) {
	t.Helper()
	if got, e := syntax.Read(s); e != api.OK || !same(got, want) {
		t.Errorf("%q: %v, %d, want %v", s, got, e, want)
	}
}

// readsNot: what Read refuses.
func readsNot(t *testing.T, s string, want api.Errno) {
	t.Helper()
	if got, e := syntax.Read(s); e != want || !reflect.DeepEqual(got, api.Program{}) {
		t.Errorf("%q: %v, %d, want %d", s, got, e, want)
	}
}

func TestReadPieces(t *testing.T) {
	for _, c := range []struct {
		s    string
		want api.Expr
	}{
		{"x", vari("x")},
		{"abcdefgh", vari("abcdefgh")},
		{"0", num(0)},
		{"10", num(10)},
		{"1099511627776", num(api.MaxNumber)},
		{`""`, str("")},
		{`"a\"\\\nb"`, str("a\"\\\nb")},
		{`"\\n"`, str(`\n`)},
		{"\"\t\r\x00\xff#é\"", str("\t\r\x00\xff#é")},
		{`"` + long(api.MaxText) + `"`, str(long(api.MaxText))},
		{"NR", count("NR")},
		{"NF", count("NF")},
		{" \t\n x \n\n\t", vari("x")},
		{"a<=b", op(vari("a"), "<=", vari("b"))},
		{"a==b", op(vari("a"), "==", vari("b"))},
		{"a!=b", op(vari("a"), "!=", vari("b"))},
		{"a>=b", op(vari("a"), ">=", vari("b"))},
		{"a&&b", op(vari("a"), "&&", vari("b"))},
		{"a||b", op(vari("a"), "||", vari("b"))},
		{"1..2", op(num(1), "..", num(2))},
		{"a<-1", op(vari("a"), "<", of(api.Neg, num(1)))},
		{"a>!b", op(vari("a"), ">", of(api.Not, vari("b")))},
		{"1in l", in(num(1), "l")},
		{`"a"in l`, in(str("a"), "l")},
		{"x?y:z", of(api.If, vari("x"), vari("y"), vari("z"))},
		{"l [ 1 ]", elem("l", num(1))},
		{"length ( x )", call("length", vari("x"))},
	} {
		reads(t, c.s+"{}", program(when(c.want)))
		reads(t, "\n"+c.s+"\t{ print 1,"+c.s+"; }\n\n", program(when(c.want, prints(num(1), c.want))))
	}
}

// Errors of cutting: the first one in the text, ahead of all that is wrong with the pieces.
func TestReadCutErrors(t *testing.T) {
	for _, c := range []struct {
		s    string
		want api.Errno
	}{
		{"1099511627777", api.ErrRange},
		{"99999999999999999999999999", api.ErrRange},
		{"9223372036854775808", api.ErrRange},
		{"18446744073709551617", api.ErrRange},
		{"00", api.ErrForm},
		{"01", api.ErrForm},
		{"0x", api.ErrForm}, // two pieces
		{"09999999999999999999999999", api.ErrForm},
		{"\"a\nb\"", api.ErrForm},
		{"\"a\n", api.ErrForm},
		{`"\t"`, api.ErrForm},
		{`"\N"`, api.ErrForm},
		{"\"\\\n\"", api.ErrForm},
		{`"\`, api.ErrShort},
		{`"`, api.ErrShort},
		{`"abc`, api.ErrShort},
		{`"abc\"`, api.ErrShort},
		{`x "`, api.ErrShort},
		{"} \"", api.ErrShort},
		{"} 1099511627777", api.ErrRange},
		{"{ x = #", api.ErrForm},
		{"# 1099511627777 \"", api.ErrForm},
		{"1099511627777 # \"", api.ErrRange},
		{"1099511627777 \"", api.ErrRange},
		{"01 \"", api.ErrForm},
		{"\"\\a\" \"", api.ErrForm},
		{"\"\n 1099511627777", api.ErrForm},
		{"aZ \"", api.ErrShort},
		{"Abc \"", api.ErrShort},        // letters, cut as a word
		{"abcdefghij \"", api.ErrShort}, // a word, too long for a name
		{"\r", api.ErrForm},
		{"\x00", api.ErrForm},
		{"\v{}", api.ErrForm},
		{"\u00a0{}", api.ErrForm},
		{"é{}", api.ErrForm},
		{"x_y{}", api.ErrForm},
		{"'a'", api.ErrForm},
		{"x & y {} \"", api.ErrForm},
		{"x | y {} \"", api.ErrForm},
		{"x . y {} \"", api.ErrForm},
		{"x ... y {} \"", api.ErrForm},
		{"x &&& y {} \"", api.ErrForm},
		{"~ \"", api.ErrForm},
		{"@ \"", api.ErrForm},
		{"` \"", api.ErrForm},
		{"^ \"", api.ErrForm},
	} {
		readsNot(t, c.s, c.want)
	}
}

func TestReadSource(t *testing.T) {
	reads(t, "", program())
	reads(t, " \n\t", program())
	reads(t, strings.Repeat(" ", api.MaxSource-2)+"{}", program(main()))
	readsNot(t, strings.Repeat(" ", api.MaxSource-1)+"{}", api.ErrSize)
	readsNot(t, strings.Repeat("#", api.MaxSource), api.ErrForm)
	readsNot(t, strings.Repeat("#", api.MaxSource+1), api.ErrSize)
}

func TestReadRules(t *testing.T) {
	x := vari("x")
	reads(t, "BEGIN { } END { } { } x { } BEGIN{}", program(begin(), end(), main(), when(x), begin()))
	reads(t, "x{}{}y{}", program(when(x), main(), when(vari("y"))))
	reads(t, "(x) { }", program(when(x)))
	reads(t, "((((x)))) { }", program(when(x)))
	reads(t, "-x { }", program(when(of(api.Neg, x))))
	reads(t, "x ? 1 : 2 { }", program(when(of(api.If, x, num(1), num(2)))))
	reads(t, "x in a { } \"{\" { }", program(when(in(x, "a")), when(str("{"))))
	for _, s := range []string{
		"}", "{ } }", "; {}", "x; {}", "x x {}", "1 1 {}", "BEGIN x {}", "BEGIN BEGIN {}", "x END {}", "END ;", "begin { } }",
		"print {}", "for {}", "() {}", "(x {}", "x) {}", "x[1 {}", "x] {}", "Begin {}", "x, y {}", "x = 1 {}", `BEGIN "{" }`,
		"abcdefghi {}", "BEGINEND {}", "{ } else { }",
	} {
		readsNot(t, s, api.ErrForm)
	}
	for _, s := range []string{"BEGIN", "END", "x", "{", "{ } x", "x +", "(", "(x", "x[", "x[1", "-", "!", "$", "x ?", "x ? y", "x ? y :", "x in", "length", "length(", "length(x", "index(x,", "1"} {
		readsNot(t, s, api.ErrShort)
	}
}

func TestReadStatements(t *testing.T) {
	x, one := vari("x"), num(1)
	for _, c := range []struct {
		s    string
		want api.Stmt
	}{
		{"x = 1;", set("x", one)},
		{"x=-1;", set("x", of(api.Neg, one))},
		{"l[1] = x;", api.Stmt{Kind: api.Put, S: "l", Exprs: []api.Expr{one, x}}},
		{"l[x ? 1 : x] = x ? x : 1;", api.Stmt{Kind: api.Put, S: "l", Exprs: []api.Expr{of(api.If, x, one, x), of(api.If, x, x, one)}}},
		{"$1 = x;", api.Stmt{Kind: api.Write, Exprs: []api.Expr{one, x}}},
		{"$-1 = x;", api.Stmt{Kind: api.Write, Exprs: []api.Expr{of(api.Neg, one), x}}},
		{"$!$x = x;", api.Stmt{Kind: api.Write, Exprs: []api.Expr{of(api.Not, of(api.Field, x)), x}}},
		{"$NF = x == 1;", api.Stmt{Kind: api.Write, Exprs: []api.Expr{count("NF"), op(x, "==", one)}}},
		{"$(x + 1) = x;", api.Stmt{Kind: api.Write, Exprs: []api.Expr{op(x, "+", one), x}}},
		{"$l[1] = x;", api.Stmt{Kind: api.Write, Exprs: []api.Expr{elem("l", one), x}}},
		{"$length(x) = x;", api.Stmt{Kind: api.Write, Exprs: []api.Expr{call("length", x), x}}},
		{"print x;", prints(x)},
		{"print(x);", prints(x)},
		{"print (x), 1 + 1, x;", prints(x, op(one, "+", one), x)},
		{`print"print";`, prints(str("print"))},
		{"if (x) { } else { }", branch(x, nil, nil)},
		{"if (x) { }", branch(x, nil, nil)},
		{"if (x) { print 1; print x; }", branch(x, []api.Stmt{prints(one), prints(x)}, nil)},
		{"if (x) { print 1; } else { print x; }", branch(x, []api.Stmt{prints(one)}, []api.Stmt{prints(x)})},
		{"if (x) { if (1) { } else { print x; } }", branch(x, []api.Stmt{branch(one, nil, []api.Stmt{prints(x)})}, nil)},
		{"if (x ? 1 : x) { }", branch(of(api.If, x, one, x), nil, nil)},
		{"while (x < 1) { x = 1; }", while(op(x, "<", one), set("x", one))},
		{"while ((x)) { }", while(x)},
		{"for (k in l) { print k; }", each("k", "l", prints(vari("k")))},
		{"for(k in l){}", each("k", "l")},
		{"next;", api.Stmt{Kind: api.Next}},
		{"delete l[x + 1];", api.Stmt{Kind: api.Delete, S: "l", Exprs: []api.Expr{op(x, "+", one)}}},
	} {
		reads(t, "{"+c.s+"}", program(main(c.want)))
		reads(t, "{ print 2; "+c.s+" print 3; }", program(main(prints(num(2)), c.want, prints(num(3)))))
	}
	reads(t, `BEGIN { load "a\"b" l; load"in"l; }`, program(begin(load(`a"b`, "l"), load("in", "l"))))
}

func TestReadStatementErrors(t *testing.T) {
	for _, s := range []string{
		";", "x;", "x", "x == 1;", "x = ;", "x = 1", "1 = x;", "x + 1;", "(x) = 1;", `"x" = 1;`, "NR = 1;", "length = 1;", "length(x) = 1;",
		"x = y = 1;", "abcdefghi = 1;", "Xy = 1;", "l[1];", "l[] = 1;", "l[1, 2] = 1;", "l[1][2] = 1;", "-x = 1;", "!x = 1;", "x[1 = 2;",
		"$ = 1;", "$1 + 1 = 2;", "$1;", "$1 == 2;", "print;", "print x", "print x,;", "print , x;", "print x y;", "print (x, y);", "print = 1;",
		"if x { }", "if (x) print x;", "if (x) { } else print x;", "if (x) { } else if (y) { }", "if () { }", "if (x, y) { }", "if (x) { };",
		"else { }", "while x { }", "while (x) print x;", "while () { }", "while (x) { };",
		"for (k in l) print k;", "for (k in l) { };", "for k in l { }", "for (k, l) { }", "for (1 in l) { }", "for (k in 1) { }", "for (in in l) { }",
		"for (k in in) { }", "for (l[1] in l) { }", "for (k in l[1]) { }", "for ((k in l)) { }", "for (k in abcdefghi) { }", "for (NR in l) { }",
		"next", "next 1;", "delete l;", "delete l[1]", "delete l[];", "delete 1;", "delete $1;", "delete in[1];", "delete (l[1]);",
		"load l \"t\";", "load \"t\";", "load \"t\" l", "load t l;", "load \"t\" 1;", "load \"t\" l[1];", "load \"t\" NF;", "load ;", "load load l;", "load 1 l;",
		"BEGIN { }", "{ }", "in = 1;", "x in l;", "x in l = 1;",
	} {
		readsNot(t, "BEGIN { "+s+" }", api.ErrForm)
	}
	full := `if (x) { print 1, y; } else { while (x < 2) { for (k in l) { next; delete l[1]; l[2] = (x ? 3 : index(x, $y)); $1 = !x; x = -2; } } }`
	pieces := strings.Fields(strings.NewReplacer("(", " ( ", ")", " ) ", "[", " [ ", "]", " ] ", ";", " ; ", ",", " , ", "$", " $ ", "!", " ! ", "-", " - ").Replace(full))
	for i := range pieces {
		readsNot(t, "{ "+strings.Join(pieces[:i], " "), api.ErrShort)
	}
	if _, e := syntax.Read("{" + full + "}"); e != api.OK {
		t.Errorf("%q: %d", full, e)
	}
	for i := range len(`BEGIN { load "t" l;`) {
		if s := `BEGIN { load "t" l;`[:i]; i >= 5 {
			readsNot(t, s, api.ErrShort)
		}
	}
	// The first piece that is wrong tells, ahead of what comes behind it, and of what Check says.
	readsNot(t, "{ x = ; ", api.ErrForm)
	readsNot(t, "{ abcdefghi", api.ErrForm)
	readsNot(t, "{ print abcdefghi", api.ErrForm)
	readsNot(t, "BEGIN { next; print x", api.ErrShort)
	readsNot(t, "BEGIN { next; print }", api.ErrForm)
	readsNot(t, "{ x = 1; x[1] = 2; ", api.ErrShort)
	readsNot(t, `{ load "t" x; x = 1; `, api.ErrShort)
}

func TestReadExpressionErrors(t *testing.T) {
	for _, s := range []string{
		"x +", "+ x", "x + + y", "x * / y", "x = y", "x ! y", "x $ y", "x -", "- ", "!", "$", "()", "(x", "x)", "(x))", "x y", "1 x", "x 1", `x "a"`, `"a" "b"`, `1 "+" 2`, `x "in" l`,
		"x ? y", "x ? : y", "x ? y :", "x : y", "? x : y", "x ?? y : z", "x in 1", "x in l[1]", "x in (l)", "x in", "in l", "x in in", "x in abcdefghi", "x in NR",
		"x[", "x[]", "x[1", "x]", "x[1,2]", "x[1][2]", "1[2]", "(x)[1]", "NR[1]", "x()", "x(1)", "length", "length x", "length()", "length[1]", "length(,)", "length(1,)", "(length)(1)",
		"print", "BEGIN", "next", "if", "abcdefghi", "Abc", "ABC", "NRF", "{}", "[1]", "x, , y", "x;; y", "x <> y", "x === y", "x =< y", "x !== y", "x <== y",
	} {
		readsNot(t, "{ print "+s+"; }", api.ErrForm)
	}
	// What only Check refuses comes at last.
	readsNot(t, "{ print length(1, 2); }", api.ErrForm)
	readsNot(t, "{ print index(1); }", api.ErrForm)
	readsNot(t, "{ print substr(1, 2, 3, 4); }", api.ErrForm)
	readsNot(t, "{ print length(1, 2);", api.ErrShort)
}

func TestReadBinds(t *testing.T) {
	for s, want := range map[string]string{
		"a || b && c":                   "(a || (b && c))",
		"a && b || c":                   "((a && b) || c)",
		"a && b < c":                    "(a && (b < c))",
		"a < b .. c":                    "(a < (b .. c))",
		"a .. b + c":                    "(a .. (b + c))",
		"a + b * c":                     "(a + (b * c))",
		"a * b + c":                     "((a * b) + c)",
		"a || b || c":                   "((a || b) || c)",
		"a && b && c":                   "((a && b) && c)",
		"a < b >= c == d":               "(((a < b) >= c) == d)",
		"a != b in l > c":               "(((a != b) in l) > c)",
		"a in l in l":                   "((a in l) in l)",
		"a in l <= b in l":              "(((a in l) <= b) in l)",
		"a .. b .. c":                   "((a .. b) .. c)",
		"a - b + c - d":                 "(((a - b) + c) - d)",
		"a / b * c % d / e":             "((((a / b) * c) % d) / e)",
		"a + b in l":                    "((a + b) in l)",
		"a && b in l":                   "(a && (b in l))",
		"a in l && b":                   "((a in l) && b)",
		"a in l .. b":                   "", // .. binds stronger, and would have a list as its side
		"a + b in l * c":                "",
		"a in l - 1":                    "",
		"(a in l) - 1":                  "((a in l) - 1)",
		"-a + b":                        "((-a) + b)",
		"a - -b":                        "(a - (-b))",
		"a--b":                          "(a - (-b))",
		"-a * b":                        "((-a) * b)",
		"-a .. b":                       "((-a) .. b)",
		"!a in l":                       "((!a) in l)",
		"!a == b":                       "((!a) == b)",
		"!-$a":                          "(!(-($a)))",
		"$a + 1":                        "(($a) + 1)",
		"$$a":                           "($($a))",
		"$-a * 2":                       "(($(-a)) * 2)",
		"$l[1] .. 2":                    "(($l[1]) .. 2)",
		"$NF - 1":                       "(($NF) - 1)",
		"-length(a)":                    "(-length(a))",
		"a ? b : c":                     "(a ? b : c)",
		"a ? b : c ? d : e":             "(a ? b : (c ? d : e))",
		"a ? b ? c : d : e":             "(a ? (b ? c : d) : e)",
		"(a ? b : c) ? d : e":           "((a ? b : c) ? d : e)",
		"a || b ? c || d : e + 1":       "((a || b) ? (c || d) : (e + 1))",
		"-a ? b : c":                    "((-a) ? b : c)",
		"a + (b ? c : d)":               "(a + (b ? c : d))",
		"a + b ? c : d":                 "((a + b) ? c : d)",
		"(a + b) * c":                   "((a + b) * c)",
		"-(a + b)":                      "(-(a + b))",
		"a * (b)":                       "(a * b)",
		"l[a ? b : c] + l[d, e]":        "",
		"l[a + b * c]":                  "l[(a + (b * c))]",
		"substr(a ? b : c, -1, a || b)": "substr((a ? b : c), (-1), (a || b))",
		"(a < b) < (c < d)":             "((a < b) < (c < d))",
		"((a))":                         "a",
	} {
		p, e := syntax.Read(s + " { }")
		if want == "" {
			if e != api.ErrForm {
				t.Errorf("%s: %d, want %d", s, e, api.ErrForm)
			}
			continue
		}
		if got, f := syntax.Print(p); got != want+" { }\n" || e != api.OK || f != api.OK {
			t.Errorf("%s: %s, %d, %d, want %s", s, got, e, f, want)
		}
	}
}

// Sequences of operators, held against what is found by cutting them at the weakest one, the last one of these.
func TestReadBindsDrawn(t *testing.T) {
	d, bad := die(3), 0
	for range 2000 {
		s := d.of("1 x -y !z $x (x+1)")
		for range 1 + d.n(7) {
			if d.n(6) == 0 {
				s += " in l"
			} else {
				s += " " + d.of("|| && < <= == != > >= .. + - * / %") + " " + d.of("1 x -y !z $x (x+1)")
			}
		}
		want := grouped(strings.Fields(s))
		if want == "" {
			bad++
			readsNot(t, s+" { }", api.ErrForm)
			continue
		}
		p, e := syntax.Read(s + " { }")
		if got, _ := syntax.Print(p); got != want+" { }\n" || e != api.OK {
			t.Fatalf("%s: %s, %d, want %s", s, got, e, want)
		}
	}
	if bad == 0 || bad > 1000 {
		t.Errorf("%d are bad", bad)
	}
}

// grouped: as Print writes it; empty: an in would have something else than a list as its side.
func grouped(l []string) string {
	if len(l) == 1 {
		return map[string]string{"1": "1", "x": "x", "-y": "(-y)", "!z": "(!z)", "$x": "($x)", "(x+1)": "(x + 1)"}[l[0]]
	}
	for _, ops := range []string{"||", "&&", "< <= == != > >= in", "..", "+ -", "* / %"} {
		for i := len(l) - 2; i > 0; i -= 2 {
			if !strings.Contains(" "+ops+" ", " "+l[i]+" ") {
				continue
			}
			left, right := grouped(l[:i]), grouped(l[i+1:])
			if l[i] == "in" && l[i+1] == "l" && len(l) == i+2 {
				right = "l"
			}
			if left == "" || right == "" {
				return ""
			}
			return "(" + left + " " + l[i] + " " + right + ")"
		}
	}
	return ""
}

// At most 2 * MaxNest blocks, whole expressions and signs are open; Check has fewer levels, but comes later.
func TestReadOpen(t *testing.T) {
	most := 2 * api.MaxNest
	times := strings.Repeat
	// In a block, a whole expression, and this many parentheses, or signs: all are open.
	for _, c := range []struct{ open, close string }{{"(", ")"}, {"-", ""}, {"!", ""}, {"$", ""}, {"l[", "]"}, {"length(", ")"}, {"1 ? ", " : 1"}, {"1 ? 1 : ", ""}} {
		good := "{ print " + times(c.open, most-2) + "1" + times(c.close, most-2)
		more := "{ print " + times(c.open, most-1) + "1" + times(c.close, most-1)
		readsNot(t, good, api.ErrShort)
		readsNot(t, good+" }", api.ErrForm)
		readsNot(t, more+" }", api.ErrSize)
		// It is asked whatever stands there, and ahead of what comes behind.
		readsNot(t, "{ print "+times(c.open, most-2), api.ErrShort)
		readsNot(t, "{ print "+times(c.open, most-2)+"}", api.ErrForm)
		readsNot(t, "{ print "+times(c.open, most-1), api.ErrSize)
		readsNot(t, "{ print "+times(c.open, most-1)+"}", api.ErrSize)
	}
	// Parentheses alone are not of the program: as many as may be open are read.
	reads(t, times("(", most-1)+"x"+times(")", most-1)+" { }", program(when(vari("x"))))
	readsNot(t, times("(", most)+"x"+times(")", most)+" { }", api.ErrSize)
	reads(t, "{ x = "+times("(", most-2)+"1"+times(")", most-2)+"; }", program(main(set("x", num(1)))))
	readsNot(t, "{ x = "+times("(", most-1)+"1"+times(")", most-1)+"; }", api.ErrSize)
	reads(t, "{ $"+times("(", most-2)+"1"+times(")", most-2)+" = 2; }", program(main(api.Stmt{Kind: api.Write, Exprs: []api.Expr{num(1), num(2)}})))
	readsNot(t, "{ $"+times("(", most-1)+"1"+times(")", most-1)+" = 2; }", api.ErrSize)

	// What was closed is open no more.
	reads(t, "{ print "+times("((1)) .. ", 10)+"1; print "+times("(", most-2)+"1"+times(")", most-2)+"; } "+times("(", most-1)+"x"+times(")", most-1)+" { }",
		program(main(prints(joined(10)), prints(num(1))), when(vari("x"))))
	reads(t, "{ print "+strings.TrimSuffix(times("-!1, ", 200), ", ")+"; }", program(main(prints(repeated(of(api.Neg, of(api.Not, num(1))), 200)...))))
	reads(t, times("{ } ", api.MaxRules), program(make20(main())...))

	// Blocks.
	ifs := func(n int) string { return "{ " + times("if (1) { ", n-1) }
	elses := func(n int) string { return "{ " + times("if (1) { } else { ", n-1) }
	loops := func(n int) string { return "{ " + times("while (1) { ", n-1) }
	eachs := func(n int) string { return "{ " + times("for (k in l) { ", n-1) }
	for _, f := range []func(int) string{ifs, elses, loops, eachs} {
		readsNot(t, f(most), api.ErrShort)
		readsNot(t, f(most)+"; ", api.ErrForm)
		readsNot(t, f(most)+"next; "+times("}", most), api.ErrSize) // Check's
		readsNot(t, f(most)+"next; "+times("}", most+1), api.ErrForm)
		readsNot(t, f(most+1), api.ErrSize)
		readsNot(t, f(most)+"print 1", api.ErrSize)
		readsNot(t, f(most)+"print }", api.ErrSize)
		readsNot(t, f(most)+"$", api.ErrSize)
		readsNot(t, f(most)+"while }", api.ErrForm)
		readsNot(t, f(most)+"while (", api.ErrSize)
		readsNot(t, f(most)+"x }", api.ErrForm)
		readsNot(t, f(most)+"x =", api.ErrSize)
		readsNot(t, f(most)+"for (k in l)", api.ErrSize)
		readsNot(t, f(most)+"for (k in l) ;", api.ErrSize)
		readsNot(t, f(most-1)+"for (k in l) ;", api.ErrForm)
		readsNot(t, f(most-1)+"for (k in l)", api.ErrShort)
	}
}

func joined(n int) api.Expr {
	x := num(1)
	for range n {
		x = op(x, "..", num(1))
	}
	return x
}

func repeated(x api.Expr, n int) (l []api.Expr) {
	for range n {
		l = append(l, x)
	}
	return l
}

func make20(r api.Rule) (l []api.Rule) {
	for range 20 {
		l = append(l, r)
	}
	return l
}

// At last comes what Check refuses.
func TestReadChecked(t *testing.T) {
	for _, c := range []struct {
		s    string
		want api.Errno
	}{
		{"BEGIN { next; }", api.ErrUse},
		{"END { if (1) { next; } }", api.ErrUse},
		{`{ load "t" l; }`, api.ErrUse},
		{"{ x = 1; x[1] = 2; }", api.ErrType},
		{"x { } x in x { }", api.ErrType},
		{"{ for (k in k) { } }", api.ErrType},
		{strings.Repeat("{ } ", api.MaxRules+1), api.ErrSize},
		{`"` + long(api.MaxText+1) + `" { }`, api.ErrSize},
		{`BEGIN { load "` + long(api.MaxText+1) + `" l; }`, api.ErrSize},
		{"{ print " + strings.Repeat("-", api.MaxNest-2) + "1; }", api.OK},
		{"{ print " + strings.Repeat("-", api.MaxNest-1) + "1; }", api.ErrSize},
		{"{ print " + strings.Repeat("1+", api.MaxNest-2) + "1; }", api.OK},
		{"{ print " + strings.Repeat("1+", api.MaxNest-1) + "1; }", api.ErrSize},
		{"{ print " + strings.Repeat("1+", 2900) + "1; }", api.ErrSize},
		{"{ print " + strings.Repeat("1,", 2900) + "1; }", api.OK},
	} {
		if p, e := syntax.Read(c.s); e != c.want || e != api.OK && !reflect.DeepEqual(p, api.Program{}) {
			t.Errorf("%q: %d, want %d", c.s, e, c.want)
		}
	}
}

// Texts of any bytes and of any pieces are read to an end, and what is read may be, and is read again from its print.
func TestReadAny(t *testing.T) {
	d := die(5)
	pieces := strings.Fields("BEGIN END print if else while for in next delete load length substr index NR NF x y l abcdefghi 0 7 00 1099511627777 \"a\" \" \\ # <= == != >= && || .. + - * / % < > ! $ ( ) { } [ ] , ; = ? :")
	for i := range 20000 {
		var b strings.Builder
		if i%2 == 0 {
			b.WriteString("{ x = 1; ")
		}
		for range d.n(12) {
			b.WriteString(pieces[d.n(len(pieces))] + []string{" ", "", "\n"}[d.n(3)])
		}
		if i%3 == 0 {
			b.WriteString("}")
		}
		p, e := syntax.Read(b.String())
		if f := syntax.Check(p); f != api.OK || e != api.OK && len(p.Rules) > 0 {
			t.Fatalf("%q: %v, %d, Check: %d", b.String(), p, e, f)
		}
		s, _ := syntax.Print(p)
		if q, f := syntax.Read(s); f != api.OK || !same(p, q) {
			t.Fatalf("%q, %q: %v, then %v, %d", b.String(), s, p, q, f)
		}
	}
}

// No two lists of an answer share memory, nor do two answers.
func TestReadNewMemory(t *testing.T) {
	const s = `BEGIN { load "t" l; } x + 1 > index(y, $2) { print x, y, 1, -x; if (x) { x = l[1]; next; } else { $1 = x ? 1 : 2; } } x + 1 { for (k in l) { delete l[k]; l[k] = 2; print; } }`
	src := strings.Replace(s, " print;", " print k, k;", 1)
	p, e := syntax.Read(src)
	q, f := syntax.Read(src)
	if e != api.OK || f != api.OK {
		t.Fatal(e, f)
	}
	seen := map[uintptr]string{}
	var look func(v reflect.Value, path string)
	look = func(v reflect.Value, path string) {
		switch v.Kind() {
		case reflect.Slice:
			full := v.Slice3(0, v.Cap(), v.Cap())
			for i := range full.Len() {
				at := full.Index(i).Addr().Pointer()
				if seen[at] != "" {
					t.Errorf("%s is shared with %s", path, seen[at])
				}
				seen[at] = path
				look(full.Index(i), path+"["+strconv.Itoa(i)+"]")
			}
		case reflect.Struct:
			for i := range v.NumField() {
				look(v.Field(i), path+"."+v.Type().Field(i).Name)
			}
		}
	}
	look(reflect.ValueOf(p.Rules), "first")
	look(reflect.ValueOf(q.Rules), "second")
}

// What is handed in is not changed, the room behind it neither.
func TestKeepsHandedIn(t *testing.T) {
	room := func(l []api.Expr) []api.Expr { return append(l, str("room"))[:len(l)] }
	args := room([]api.Expr{num(1), num(2)})
	exprs := room([]api.Expr{{Kind: api.Op, S: "+", Args: args}})
	body := append([]api.Stmt{{Kind: api.Print, Exprs: exprs}}, set("room", num(1)))[:1]
	p := program(main(body...))
	want := program(main(prints(op(num(1), "+", num(2)))))
	syntax.Check(p)
	syntax.Print(p)
	if !same(p, want) || !reflect.DeepEqual(args[:3][2], str("room")) || !reflect.DeepEqual(exprs[:2][1], str("room")) || !reflect.DeepEqual(body[:2][1], set("room", num(1))) {
		t.Errorf("changed: %v", p)
	}
}
