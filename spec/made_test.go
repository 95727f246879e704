package spec_test

import (
	"fmt"
	"strings"
	"testing"

	"tillage/api"
	"tillage/spec"
)

// a program, and what should be made of it, both as texts; without a rule ahead, of which begin tells the statements.
type made struct{ source, want string }

// begin: a rule that is done ahead in all these programs. x is -3, y the text "t", z is 5, v is empty; l has some keys,
// m none.
const begin = "BEGIN { x = 1 - 4; y = \"t\"; z = 5; v = \"\"; load \"tab\" l; l[\"k\"] = -7; m[1] = 2; delete m[1]; } "

func check(t *testing.T, l ...made) {
	t.Helper()
	for _, c := range l {
		q, e := spec.Spec(read(t, begin+c.source), tab("one|0||4"), 100)
		if e != api.OK {
			t.Errorf("%s: %v", c.source, e)
			continue
		}
		if got := strings.TrimSuffix(text(t, q), "\n"); got != c.want {
			t.Errorf("%s\nis %s\nwant %s", c.source, got, c.want)
		}
	}
}

// shown: pairs of an expression, and what it is in a rule of Main of what is made. Lists that are changed, and what is
// put ahead, are left away.
func shown(t *testing.T, pairs ...string) {
	t.Helper()
	for i := 0; i < len(pairs); i += 2 {
		q, e := spec.Spec(read(t, begin+"{ print "+pairs[i]+"; } { w = $1; c[1] = w; }"), tab("one|0||4"), 100)
		if e != api.OK {
			t.Errorf("%s: %v", pairs[i], e)
			continue
		}
		l := q.Rules
		if l[0].When == api.Begin {
			l = l[1:]
		}
		got := strings.TrimSuffix(text(t, api.Program{Rules: l[:1]}), "\n")
		if want := "{ print " + pairs[i+1] + "; }"; got != want {
			t.Errorf("%s: %s, want %s", pairs[i], got, want)
		}
	}
}

// P4.2: variables that are known, of each kind of value, also where nothing was set.
func TestVariables(t *testing.T) {
	shown(t, "x", "(-3)", "y", `"t"`, "z", "5", "v", `""`, "none", "0", "w", "w", "x, w, y", `(-3), w, "t"`,
		"$z", "($5)", "c[z]", "c[5]", "w .. z", "(w .. 5)", "z in c", "(5 in c)", "length(w) + x", "(length(w) + (-3))")
}

// P4.2: elements of lists that are known, at constants, of each kind; there or not.
func TestLists(t *testing.T) {
	shown(t, "l[1]", `"one"`, `l["2"]`, `"0"`, "l[3]", `""`, "l[4]", `"4"`, "l[5]", "0", `l["k"]`, "(-7)", "l[x]", "0",
		"l[z - 1]", `"4"`, `l["1 "]`, "0", "m[1]", "0", "n[y]", "0", "c[1]", "c[1]", "l[w]", "l[w]", "l[NR]", "l[NR]",
		"n[$1]", "n[($1)]", "l[l[4]]", `"4"`, "l[-1]", "0",
		"1 in l", "1", `"k" in l`, "1", "5 in l", "0", "1 in m", "0", "1 in n", "0", "w in l", "(w in l)", "1 in c", "(1 in c)",
		"(1 in l) in l", "1", "z in l", "0", "NF in l", "(NF in l)", "-1 in l", "0")
}

// P4.2: what is of constants alone is a constant, unless a run ends there.
func TestConstants(t *testing.T) {
	shown(t, "1", "1", `"a"`, `"a"`, "-1", "(-1)", "-0", "0", "--2", "2", "---2", "(-2)", `-"3 q"`, "(-3)", `-"a"`, "0",
		"1 + 2", "3", "1 - 2", "(-1)", "z * x", "(-15)", "7 / -2", "(-3)", "-7 % 2", "(-1)", `1 .. "a"`, `"1a"`,
		"x .. y", `"-3t"`, "1 < 2", "1", `10 < "9"`, "1", "1 >= 2", "0", "x == -3", "1", "x != -3", "0", "2 <= 2", "1", "2 > 2", "0",
		"!0", "1", `!"0"`, "0", "!x", "0", `!""`, "1", `length("abc")`, "3", "length(x)", "2", `index("abc", "c")`, "3",
		`substr("abcd", 2, 2)`, `"bc"`, `substr("abc", x, z)`, `"a"`, "(1 + 2) * (3 - x)", "18", `length(y .. y) + 1`, "3",
		"1 / 0", "(1 / 0)", "z % 0", "(5 % 0)", "1099511627776 + 1", "(1099511627776 + 1)", "-1099511627776", "(-1099511627776)",
		"-1099511627776 - 1", "((-1099511627776) - 1)", `-"9999999999999"`, `(-"9999999999999")`,
		`substr("a", "9999999999999", 1)`, `substr("a", "9999999999999", 1)`, "(1 / 0) + (1 + 2)", "((1 / 0) + 3)",
		"!(1 / 0)", "(!(1 / 0))", "length(1 / 0)", "length((1 / 0))", "l[1 / 0]", "l[(1 / 0)]",
		"w + 1", "(w + 1)", "w + (1 + 1)", "(w + 2)", "-w", "(-w)", "!w", "(!w)", "length(w)", "length(w)", "NR + (2 - 1)", "(NR + 1)",
		"NF", "NF", "$0", "($0)", "$(0 + 1)", "($1)", "$(-1)", "($(-1))")
	long := strings.Repeat("a", api.MaxText-1)
	shown(t, `"`+long+`" .. "b"`, `"`+long+`b"`, `"`+long+`" .. "bc"`, `("`+long+`" .. "bc")`)
}

// P4.2: && and ||, whose first side tells or not.
func TestBoth(t *testing.T) {
	shown(t, "0 && w", "0", "v && w", "0", "none && 1 / 0", "0", "1 || w", "1", "x || 1 / 0", "1", `"0" || w`, "1",
		"1 && 0", "0", "1 && 2", "1", `z && ""`, "0", "0 || 0", "0", "v || y", "1", `0 || "a"`, "1",
		"1 && w", "(1 && w)", "0 || w", "(0 || w)", "z && w && x", "((5 && w) && (-3))", "w && 0", "(w && 0)", "w || 1", "(w || 1)",
		"w && 1 + 1", "(w && 2)", "1 && 1 / 0", "(1 && (1 / 0))", "1 / 0 && 0", "((1 / 0) && 0)", "0 && w || w", "(0 || w)",
		"(0 && w) + 1", "1", "!(1 || w)", "0", "-(1 || w)", "(-1)")
}

// P4.2: If.
func TestIf(t *testing.T) {
	shown(t, "1 ? w : 2", "w", "0 ? w : 2", "2", "x ? 1 + 1 : 1 / 0", "2", "v ? 1 / 0 : w .. z", "(w .. 5)",
		`"" ? 1 : l[1]`, `"one"`, "w ? x : y", `(w ? (-3) : "t")`, "w ? 1 : 1", "(w ? 1 : 1)", "(1 < 2 ? 3 : 4) + 1", "4",
		"1 / 0 ? 1 : 2", "((1 / 0) ? 1 : 2)", "(1 ? 1 : w) ? z : w", "5", "w ? 0 && w : 1 ? 2 : 3", "(w ? 0 : 2)", "-(0 ? 1 : 2)", "(-2)")
}

// P4.2: Branch and While.
func TestBranches(t *testing.T) {
	check(t,
		made{"{ if (x) { print 1; next; } else { print 2; } print 3; }", "{ print 1; next; print 3; }"},
		made{"{ if (v) { print 1; } else { print 2; w = NR; } }", "{ print 2; w = NR; }"},
		made{"{ if (none) { print 1; } print 2; }", "{ print 2; }"},
		made{"{ if (z > 4) { if (z > 5) { print 1; } else { print z; } } }", "{ print 5; }"},
		made{"{ if ($1) { print z; } else { print x; } }", "{ if (($1)) { print 5; } else { print (-3); } }"},
		made{"{ if ($1) { if (0) { print z; } } }", "{ if (($1)) { } else { } }"},
		made{"{ if (1 / 0) { print z; } }", "{ if ((1 / 0)) { print 5; } else { } }"},
		made{"{ while (none) { print 1; } print 2; }", "{ print 2; }"},
		made{"{ while (v) { print 1; } }", "{ }"},
		made{"{ while (z) { print z; next; } }", "{ while (5) { print 5; next; } }"},
		made{"{ while (w < z) { w = w + 1; print x; } }", "{ while ((w < 5)) { w = (w + 1); print (-3); } }"},
		made{"{ while (1 / 0) { print z; } }", "{ while ((1 / 0)) { print 5; } }"},
		made{"{ $z = x; c[x] = y; delete c[z]; print x, z; }",
			`{ $5 = (-3); c[(-3)] = "t"; delete c[5]; print (-3), 5; }`},
	)
}

// P4.2: Patterns, and rules; what is left of them stands in its order.
func TestPatterns(t *testing.T) {
	check(t,
		made{"x { print 1; } v { print 2; } 1 < 2 { print 3; } $1 { print 4; }", "{ print 1; }\n{ print 3; }\n($1) { print 4; }"},
		made{"0 { print 1; }", ""},
		made{"\"0\" { } \"\" { }", "{ }"},
		made{"1 / 0 { print 1; }", "(1 / 0) { print 1; }"},
		made{"z > NR { print 1; }", "(5 > NR) { print 1; }"},
		made{"END { print x; } 1 { print z; } END { print y; } 0 { next; }", "END { print (-3); }\n{ print 5; }\nEND { print \"t\"; }"},
		made{"1 && $1 { print 1; }", "(1 && ($1)) { print 1; }"},
	)
}

// P4.2: an Each over a list that is known is written out, by the bytes of its keys, however it stands.
func TestEachIsWrittenOut(t *testing.T) {
	check(t,
		made{"{ for (k in l) { print k, z; } }", `{ k = "1"; print k, 5; k = "2"; print k, 5; k = "3"; print k, 5; ` +
			`k = "4"; print k, 5; k = "k"; print k, 5; }`},
		made{"{ for (k in m) { print k; } print 1; }", "{ print 1; }"},
		made{"{ for (k in n) { x = 1; } print k, x; }", "{ print 0, (-3); }"},
		made{"{ for (k in l) { } }", `{ k = "1"; k = "2"; k = "3"; k = "4"; k = "k"; }`},
		made{"{ for (k in c) { print k, l[1]; } c[1] = 2; }", `{ for (k in c) { print k, "one"; } c[1] = 2; }`},
		made{"{ for (k in c) { for (i in m) { print i; } } } END { delete c[1]; }", "{ for (k in c) { } }\nEND { delete c[1]; }"},
	)
	const keys = `BEGIN { a["b"] = 1; a["10"] = 1; a[9] = 2; a["B"] = 3; } `
	q, e := spec.Spec(read(t, keys+"{ for (k in a) { if (k > $1) { next; } } } END { for (i in a) { print i; } }"), nil, 9)
	want := ""
	for _, k := range []string{"10", "9", "B", "b"} {
		want += fmt.Sprintf("k = %q; if ((k > ($1))) { next; } else { } ", k)
	}
	want = "{ " + want + "}\nEND { "
	for _, k := range []string{"10", "9", "B", "b"} {
		want += fmt.Sprintf("i = %q; print i; ", k)
	}
	if got := text(t, q); e != api.OK || got != want+"}\n" {
		t.Errorf("%v %s\nwant %s}", e, got, want)
	}
}

// P4.2: lists of 20 keys are written out, those of 21 are not: these stand in the rule of Begin then.
func TestEachOfManyKeys(t *testing.T) {
	p := read(t, "BEGIN { load \"tab\" a; } END { for (k in a) { print k; } }")
	for n, loops := range map[int]bool{1: false, 20: false, 21: true, api.MaxKeys: true} {
		q, e := spec.Spec(p, numbers(n), 9)
		s := text(t, q)
		if e != api.OK || strings.Contains(s, "for") != loops || strings.Contains(s, "BEGIN") != loops {
			t.Errorf("%d keys: %v %s", n, e, s)
		}
		if puts := strings.Count(s, "a["); loops && puts != n || !loops && puts != 0 {
			t.Errorf("%d keys: %d are put", n, puts)
		}
	}
}

// P4.2: of a program that would be too great so, no Each is written out, not even one that is not too great itself.
func TestEachIsNotWrittenOut(t *testing.T) {
	nest := func(deep int, inner string) string {
		return strings.Repeat("for (k in a) { ", deep) + inner + strings.Repeat("} ", deep)
	}
	// 20 * (2 + 20 * (2 + 7)) are 3640: with 360 more it is as great as may be.
	great := nest(2, "next; print 1; print 2; print 3; ") + strings.Repeat("print 1; ", 180)
	for _, c := range []struct {
		source string
		loops  int
	}{
		{"{ " + nest(1, "print k; ") + "}", 0},
		{"{ " + nest(2, "print k; ") + "}", 0},
		{"{ " + great + "}", 0},
		{"{ " + great + "} END { if ($1) { } }", 2},
		{"{ " + great + "next; }", 2},
		{"{ " + great + "next; } END { for (i in none) { print i; } for (i in one) { print i; } }", 4},
		{"{ " + nest(3, "print k; ") + "}", 3},
		{"{ " + nest(17, "print k; ") + "}", 17},
		{"{ " + strings.Repeat(nest(2, "print k; "), 100) + "}", 200},
		{"NR { if (0) { " + great + "next; } for (k in a) { print k; } }", 0},
		{"{ for (i in none) { " + great + "next; } for (k in a) { print k; } }", 0},
	} {
		q, e := spec.Spec(read(t, "BEGIN { load \"tab\" a; one[1] = 1; } "+c.source), numbers(20), 9)
		if s := text(t, q); e != api.OK || strings.Count(s, "for") != c.loops {
			t.Errorf("%s: %v %s", c.source, e, s)
		}
	}
}

// P4.2: the rule of Begin: what was printed, and all that is not as it is at first, and stands in other rules.
func TestBegin(t *testing.T) {
	for _, c := range []struct{ source, want string }{
		{"", ""},
		{"BEGIN { }", ""},
		{"BEGIN { x = 1; a[1] = 2; }", ""},
		{"BEGIN { x = 1; a[1] = 2; } { print x, a[1]; }", "{ print 1, 2; }"},
		{"BEGIN { x = 1; } { x = x; }", "BEGIN { x = 1; }\n{ x = x; }"},
		{"BEGIN { x = 1; } END { for (x in a) { } a[1] = 1; }", "BEGIN { x = 1; }\nEND { for (x in a) { } a[1] = 1; }"},
		{"{ z = y; y = x; x = w; } BEGIN { z = \"\"; y = 0; x = -5; w = 3; }",
			"BEGIN { x = (-5); z = \"\"; }\n{ z = y; y = x; x = 3; }"},
		{"BEGIN { x = \"0\"; } { x = 1; }", "BEGIN { x = \"0\"; }\n{ x = 1; }"},
		{"BEGIN { x = 1; } { if (0) { x = 2; } print x; }", "{ print 1; }"},
		{"BEGIN { print 1, \"a\"; } BEGIN { print -1; print \"\\n\\\"\"; }",
			"BEGIN { print \"1 a\"; print \"-1\"; print \"\\n\\\"\"; }"},
		{"END { print x; x = 1; } BEGIN { print x; x = 2; } BEGIN { print x; x = 3; }",
			"BEGIN { print \"0\"; print \"2\"; x = 3; }\nEND { print x; x = 1; }"},
		{"BEGIN { $3 = 4; print NF, $0, NR; } { print NF, NR, $3; } END { print $0; }",
			"BEGIN { print \"3   4 0\"; }\n{ print NF, NR, ($3); }\nEND { print ($0); }"},
		{"BEGIN { a[2] = 0; a[1] = -1; a[\"x\"] = \"\"; b[1] = 1; } { delete a[1]; }",
			"BEGIN { a[\"1\"] = (-1); a[\"2\"] = 0; a[\"x\"] = \"\"; }\n{ delete a[1]; }"},
		{"BEGIN { a[1] = 1; } $1 in a { a[1] = 2; }", "BEGIN { a[\"1\"] = 1; }\n(($1) in a) { a[1] = 2; }"},
		{"BEGIN { a[1] = 1; a[2] = 1; delete a[1]; } { print a[$1]; }", "BEGIN { a[\"2\"] = 1; }\n{ print a[($1)]; }"},
		{"BEGIN { a[9] = 1; load \"tab\" a; } { print $1 in a; }",
			"BEGIN { a[\"1\"] = \"p\"; a[\"2\"] = \"2\"; }\n{ print (($1) in a); }"},
		{"BEGIN { b = 1; a[1] = 2; c = 3; } { c = b; b = a[$1]; }",
			"BEGIN { a[\"1\"] = 2; b = 1; c = 3; }\n{ c = b; b = a[($1)]; }"},
	} {
		q, e := spec.Spec(read(t, c.source), tab("p|2"), 100)
		if got := strings.TrimSuffix(text(t, q), "\n"); e != api.OK || got != c.want {
			t.Errorf("%s: %v\nis %s\nwant %s", c.source, e, got, c.want)
		}
	}
}

// P4.2: what is left out may have been all that changed a name: that one is known then, when it is done again. All of
// this is done at once.
func TestNothingIsLeftToDoAgain(t *testing.T) {
	check(t,
		made{"{ if (none) { x = 1; } if (x > 0) { z = 2; } print x, z; }", "{ print (-3), 5; }"},
		made{"a { b = 1; } b { c = 1; } c { d = 1; } d { e = 1; } END { print a, b, c, d, e; }", "END { print 0, 0, 0, 0, 0; }"},
		made{"v { l[1] = 2; } { print l[1]; delete m[1]; }", "{ print \"one\"; delete m[1]; }"},
		made{"0 { delete l[1]; m[1] = 2; } END { for (k in m) { y = 1; } print y, 1 in l; }", "END { print \"t\", 1; }"},
		made{"{ for (k in n) { c[1] = k; } for (i in c) { print i; } print i, k; }", "{ print 0, 0; }"},
		made{"{ print w ? 1 : 2; while (w) { w = 1; } }", "{ print (w ? 1 : 2); while (w) { w = 1; } }"},
	)
}

// P4.2: a name that becomes known so, and for which there is no room, is left as it was.
func TestTooDeepToDoAgain(t *testing.T) {
	set := api.Stmt{Kind: api.Set, S: "x", Exprs: []api.Expr{num(1)}}
	never := api.Rule{When: api.Main, Has: true, Pattern: num(0), Body: []api.Stmt{set}}
	set.Exprs = []api.Expr{{Kind: api.Neg, Args: []api.Expr{num(1)}}}
	field := func(x api.Expr) api.Expr { return api.Expr{Kind: api.Field, Args: []api.Expr{x}} }
	for deepest, want := range map[int]string{api.MaxNest - 4: "-1", api.MaxNest - 3: "x"} {
		p := program(api.Rule{Body: []api.Stmt{set}}, never, mainRule(show(deep(deepest, field(variable("x"))))))
		q, e := spec.Spec(p, nil, 9)
		if s := text(t, q); e != api.OK || strings.Contains(s, "BEGIN") != (want == "x") || !strings.Contains(s, "($"+want) &&
			!strings.Contains(s, "($("+want) {
			t.Errorf("%d: %v %s", deepest, e, s)
		}
	}
}
