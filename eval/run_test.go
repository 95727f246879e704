package eval_test

import (
	"fmt"
	"reflect"
	"slices"
	"strconv"
	"strings"
	"testing"

	"tillage/api"
	"tillage/eval"
	"tillage/syntax"
)

func read(t *testing.T, source string) api.Program {
	t.Helper()
	p, e := syntax.Read(source)
	if e != api.OK {
		t.Fatalf("%s: %v", source, e)
	}
	return p
}

// a run, and what should come of it. Lines and what is printed are told with a | between; none is "-".
type run struct {
	source, lines, printed string
	end                    int
}

func parted(s string) []string {
	if s == "-" {
		return nil
	}
	return strings.Split(s, "|")
}

func check(t *testing.T, files []api.File, runs ...run) {
	t.Helper()
	for _, r := range runs {
		o, e := eval.Run(read(t, r.source), files, parted(r.lines), api.MaxFuel)
		if e != api.OK || o.End != r.end || !slices.Equal(o.Lines, parted(r.printed)) {
			t.Errorf("%s\non %q: %q, end %d, %v; want %q, end %d", r.source, r.lines, o.Lines, o.End, e, r.printed, r.end)
		}
	}
}

// values: what expressions are, printed in a rule of Main, on one line.
func values(t *testing.T, line string, pairs ...string) {
	t.Helper()
	for i := 0; i < len(pairs); i += 2 {
		check(t, nil, run{"{ print " + pairs[i] + "; }", line, pairs[i+1], api.Done})
	}
}

// ends: with which end statements of a rule of Main, on one line, end a run that printed nothing.
func ends(t *testing.T, end int, stmts ...string) {
	t.Helper()
	for _, s := range stmts {
		check(t, nil, run{"{ " + s + " print \"not here\"; }", "a b c", "-", end})
	}
}

// P3.2: what is refused, in which order.
func TestRunRefuses(t *testing.T) {
	good, bad := read(t, "{ print 1; }"), api.Program{Rules: []api.Rule{{When: 3}}}
	many := api.Program{Rules: times(api.MaxRules+1, api.Rule{})}
	for _, c := range []struct {
		what  string
		p     api.Program
		files []api.File
		lines []string
		fuel  int
		want  api.Errno
	}{
		{"a program that may not be", bad, nil, nil, 1, api.ErrKind},
		{"too many rules", many, nil, nil, 1, api.ErrSize},
		{"files that may not be", good, named("aa"), nil, 1, api.ErrTwice},
		{"lines that may not be", good, nil, []string{"\n"}, 1, api.ErrForm},
		{"too many lines", good, nil, times(api.MaxLines+1, ""), 1, api.ErrSize},
		{"fuel below 0", good, nil, []string{"a"}, -1, api.ErrRange},
		{"too much fuel", good, nil, []string{"a"}, api.MaxFuel + 1, api.ErrRange},
		{"the program ahead of all", bad, named("aa"), []string{"\n"}, -1, api.ErrKind},
		{"files ahead of lines", good, named("aa"), []string{"\n"}, -1, api.ErrTwice},
		{"lines ahead of fuel", good, nil, []string{"\n"}, -1, api.ErrForm},
		{"parts that hold themselves", endless(), nil, nil, 1, api.ErrSize},
	} {
		o, e := eval.Run(c.p, c.files, c.lines, c.fuel)
		if e != c.want || len(o.Lines) != 0 || o.End != 0 || o.Used != 0 {
			t.Errorf("%s: %v %v, want %v alone", c.what, o, e, c.want)
		}
	}
}

// endless: a program with a statement that is its own Body.
func endless() api.Program {
	body := []api.Stmt{{Kind: api.While, Exprs: []api.Expr{{Kind: api.Num, N: 1}}}}
	body[0].Body = body
	return api.Program{Rules: []api.Rule{{Body: body}}}
}

// P3.2: what there is at first, and in which order rules are done.
func TestRules(t *testing.T) {
	check(t, nil,
		run{"", "a|b", "-", api.Done},
		run{"BEGIN { print x, y == 0, length(l[1]), 1 in l, l[1]; }", "-", "0 1 1 0 0", api.Done},
		run{"BEGIN { for (k in l) { print k; } print NR, NF, length($0), length($1); }", "a", "0 0 0 0", api.Done},
		run{"BEGIN { print 1; } BEGIN { print 2; }", "a|b", "1|2", api.Done},
		run{"END { print \"e\"; } { print \"m\"; } BEGIN { print \"b\"; }", "x|y", "b|m|m|e", api.Done},
		run{"END { print 1; } { print 2; } END { print 3; } { print 4; }", "x|y", "2|4|2|4|1|3", api.Done},
		run{"{ print 1; } END { print 2; } BEGIN { print 3; }", "-", "3|2", api.Done},
		run{"NR == 2 { print $0; } NR > 1 { print NR; } 0 { print 1; } \"\" { print 2; } \"0\" { print 3; }", "a|b", "3|b|2|3",
			api.Done},
		run{"{ x = x + $1; } END { print x; }", "3|4|5", "12", api.Done},
		run{"x { print x; } { x = x + 1; }", "a|b|c", "1|2", api.Done},
	)
}

// P3.2: an end that is not Done keeps what was printed ahead of it; nothing is done behind it.
func TestEndsKeepWhatWasPrinted(t *testing.T) {
	check(t, nil,
		run{"BEGIN { print 1; x = 1 / 0; print 2; } BEGIN { print 3; } { print 4; } END { print 5; }", "a", "1", api.BadZero},
		run{"{ print 1; } $1 / $2 { print 2; } END { print 3; }", "4 2|1 0|4 2", "1|2|1", api.BadZero},
		run{"{ print 1; } END { print 2; $(-1) = 1; print 3; } END { print 4; }", "a", "1|2", api.BadField},
		run{"BEGIN { for (k in l) { x = 1; } l[1] = 1; for (k in l) { while (1) { if (1) { x = 1 % 0; } } } }", "a", "-",
			api.BadZero},
	)
}

// P3.2: how much is burnt. Each program is run with each fuel up to all that it needs, and with one more.
func TestFuel(t *testing.T) {
	for _, c := range []struct {
		source, lines string
		printed       string // of each line: how much is burnt when it is printed
		used          int
	}{
		{"", "a|b", "-", 0},
		{"BEGIN { }", "a|b", "-", 1},
		{"{ }", "-", "-", 0},
		{"{ } 0 { print 1; } { }", "a|b", "-", 6},
		{"END { }", "-", "-", 1},
		{"BEGIN { print 2; print 3; } { print 5; } 0 { } END { print 8; }", "a", "2|3|5|8", 8},
		{"BEGIN { if (1) { print 3; } else { print 0; } if (0) { print 0; } else { print 5; } if (0) { } }", "-", "3|5", 6},
		{"BEGIN { while (0) { print 0; } }", "-", "-", 2},
		{"BEGIN { while (x < 2) { x = x + 1; } print 7; }", "-", "7", 7},
		{"BEGIN { while (i < 3) { i = i + 1; if (i == 3) { print 12; } } }", "-", "12", 12},
		{"BEGIN { for (k in l) { print 0; } l[1] = 1; l[2] = 1; for (k in l) { } print 8; }", "-", "8", 8},
		{"BEGIN { l[1] = 1; for (k in l) { print 5; } }", "-", "5", 5},
		{"{ next; print 0; } { }", "a|b", "-", 4},
		{"{ delete l[1]; l[1] = 1; $1 = 1; print 5; }", "a", "5", 5},
	} {
		p := read(t, c.source)
		for fuel := range c.used + 2 {
			o, e := eval.Run(p, nil, parted(c.lines), fuel)
			end := api.Done
			if fuel < c.used {
				end = api.Spent
			}
			if e != api.OK || o.End != end || o.Used != min(fuel, c.used) || !slices.Equal(o.Lines, burntBy(c.printed, fuel)) {
				t.Errorf("%s\nwith %d: %v %v, %d are needed", c.source, fuel, o, e, c.used)
			}
		}
	}
}

// burntBy: of lines that tell how much is burnt when they are printed, those for which fuel is enough.
func burntBy(printed string, fuel int) []string {
	var l []string
	for _, s := range parted(printed) {
		if n, _ := strconv.Atoi(s); n <= fuel {
			l = append(l, s)
		}
	}
	return l
}

// P3.2: the greatest fuel is enough for so many rounds, and every run ends.
func TestFuelOfEndlessRuns(t *testing.T) {
	for _, source := range []string{
		"BEGIN { while (1) { } }",
		"BEGIN { while (1) { while (1) { x = x + 1; } } }",
		"{ while (1) { if (x) { } else { } } }",
		"END { l[1] = 1; while (1) { for (k in l) { l[k] = k; } } }",
	} {
		for _, fuel := range []int{0, 1, 2, 1000, api.MaxFuel} {
			o, e := eval.Run(read(t, source), nil, []string{"a"}, fuel)
			if e != api.OK || o.End != api.Spent || o.Used != fuel || len(o.Lines) != 0 {
				t.Errorf("%s with %d: %v %v", source, fuel, o, e)
			}
		}
	}
}

// P3.2: how much was burnt is told, too, where a run ends badly; what ends it first is told.
func TestUsedOfBadEnds(t *testing.T) {
	for _, c := range []struct {
		source          string
		fuel, end, used int
	}{
		{"BEGIN { x = 1 / 0; }", 200, api.BadZero, 2},
		{"BEGIN { x = 1 / 0; }", 2, api.BadZero, 2},
		{"BEGIN { x = 1 / 0; }", 1, api.Spent, 1},
		{"1 / 0 { }", 1, api.BadZero, 1},
		{"1 / 0 { }", 0, api.Spent, 0},
		{"BEGIN { while (1 / 0) { } }", 2, api.BadZero, 2},
		{"BEGIN { load \"no\" l; }", 2, api.BadFile, 2},
		{"BEGIN { load \"no\" l; }", 1, api.Spent, 1},
	} {
		o, e := eval.Run(read(t, c.source), nil, []string{"a"}, c.fuel)
		if e != api.OK || o.End != c.end || o.Used != c.used {
			t.Errorf("%s with %d: %v %v, want end %d, used %d", c.source, c.fuel, o, e, c.end, c.used)
		}
	}
}

// P3.3: lines and their fields.
func TestFields(t *testing.T) {
	show := "{ print NR, NF, \"<\" .. $0 .. \">\", \"<\" .. $1 .. \">\", \"<\" .. $2 .. \">\"; }"
	check(t, nil,
		run{show, "a b", "1 2 <a b> <a> <b>", api.Done},
		run{show, "|x", "1 0 <> <> <>|2 1 <x> <x> <>", api.Done},
		run{show, " \t a\t\tb  c \t", "1 3 < \t a\t\tb  c \t> <a> <b>", api.Done},
		run{show, " \t ", "1 0 < \t > <> <>", api.Done},
		run{show, "a\rb\vc\fd\x00e \xff\u00a0\u2003", "1 2 <a\rb\vc\fd\x00e \xff\u00a0\u2003> <a\rb\vc\fd\x00e> <\xff\u00a0\u2003>",
			api.Done},
		run{"{ print NR, NF, $1; } END { print NR, NF, $1, $0 == \"\", 9; }", "a b|c", "1 2 a|2 1 c|2 0  1 9", api.Done},
		run{"END { print NR, NF, length($0), length($1); }", "-", "0 0 0 0", api.Done},
	)
}

// P3.3: what was written into fields is gone with the next line, and behind all lines.
func TestFieldsOfEachLineAreItsOwn(t *testing.T) {
	check(t, nil,
		run{"BEGIN { $2 = \"b\"; } BEGIN { print NF, $0; } { print NF, $0; } END { print NF .. $0 .. $1; }", "x",
			"2  b|1 x|0", api.Done},
		run{"BEGIN { $2 = \"b\"; } END { print NF .. $0 .. $2; }", "-", "0", api.Done},
		run{"NR == 1 { $3 = 7; print $0, NF; } { print $0, NF; }", "a|b", "a  7 3|a  7 3|b 1", api.Done},
		run{"{ $1 = $1 .. NR; } END { print $0, NF; } END { $1 = 5; } END { print $0, NF; }", "a|b", " 0|5 1", api.Done},
	)
	line := strings.Repeat("x ", 100)
	check(t, nil, run{"{ print NF, $100, $101 == \"\"; }", line, "100 x 1", api.Done})
}

// P3.4: what expressions are.
func TestExpressions(t *testing.T) {
	values(t, "1 02 x -3",
		"7", "7", "\"a\\\"b\"", "a\"b", "x", "0",
		"$1", "1", "$2", "02", "$5", "", "$0", "1 02 x -3", "$(1 + 1)", "02", "$\"3a\"", "x", "$\"\"", "1 02 x -3",
		"$1099511627776", "", "$NF", "-3", "$$1", "1",
		"l[1]", "0", "1 in l", "0",
		"$1 == 1", "1", "$2 == 2", "0", "$2 + 0 == 2", "1", "$2 < 10", "1", "$1 < $2", "0", "x == l[1]", "1",
		"2 + 3", "5", "2 - 3", "-1", "2 * 3", "6", "-7 / 2", "-3", "-7 % 2", "-1", "2 .. 3", "23", "2 < 10", "1",
		"2 <= 1", "0", "2 != 2", "0", "2 > 1", "1", "2 >= 3", "0", "\"2\" < 10", "0",
		"-3", "-3", "-x", "0", "-\"4y\"", "-4", "-$4", "3", "-\"\"", "0", "-\"q\"", "0", "-1099511627776", "-1099511627776",
		"!0", "1", "!3", "0", "!\"\"", "1", "!\"0\"", "0", "!!7", "1", "!$9", "1",
		"1 ? 2 : 3", "2", "0 ? 2 : 3", "3", "\"\" ? 2 : 3", "3", "\"0\" ? 2 : 3", "2", "$9 ? 2 : \"n\"", "n",
		"length($0)", "9", "substr($0, 3, 2)", "02", "index($0, \"x\")", "6", "NR", "1", "NF", "4", "-NF", "-4",
	)
}

// P3.4: of && and || what holds is told as 1 or 0.
func TestLogic(t *testing.T) {
	values(t, "a",
		"0 && 0", "0", "0 && 2", "0", "2 && 0", "0", "2 && 3", "1",
		"0 || 0", "0", "0 || 2", "1", "2 || 0", "1", "2 || 3", "1",
		"\"\" && \"a\"", "0", "\"0\" && \"a\"", "1", "\"\" || \"a\"", "1", "\"\" || \"\"", "0", "\"0\" || 0", "1",
		"1 && $1", "1", "1 && $2", "0", "0 || $2", "0",
	)
}

// P3.4: what is not needed is not asked; what is needed is.
func TestWhatIsAsked(t *testing.T) {
	values(t, "a",
		"0 && 1 / 0", "0", "\"\" && 1 / 0", "0", "1 || 1 / 0", "1", "\"0\" || 1 / 0", "1",
		"1 ? 2 : 1 / 0", "2", "0 ? 1 / 0 : 2", "2", "0 && 1 / 0 || 3", "1",
	)
	ends(t, api.BadZero, "print 1 && 1 / 0;", "print 0 || 1 / 0;", "print 1 / 0 && 0;", "print 1 / 0 || 1;",
		"print 1 ? 1 / 0 : 2;", "print 0 ? 2 : 1 / 0;", "print 1 / 0 ? 2 : 3;", "print 1 / 0 in l;", "print l[1 / 0];",
		"print !(1 / 0);", "print -(1 / 0);", "print length(1 / 0);", "print $(1 / 0);", "if (1 / 0) { }")
	check(t, nil, run{"1 / 0 { print 2; }", "a", "-", api.BadZero})
}

// P3.4: expressions are asked from left to right: of two that end a run, the first one does it.
func TestFromLeftToRight(t *testing.T) {
	for _, c := range []string{"@ + #", "@ .. #", "@ < #", "index(@, #)", "substr(1, @, #)", "substr(@, #, 1)", "length(@) + #",
		"l[@] + #", "(@ in l) * #", "$@ + #", "-@ + #", "!@ + #", "1 + @ * #", "0 && # || @", "@ && #", "@ || #", "@ ? # : #",
		"0 ? # : @", "1 ? @ : #", "(0 && #) + @", "(1 || #) + @"} {
		zero, field := "(1 / 0)", "$(-1)"
		ends(t, api.BadZero, "print "+strings.NewReplacer("@", zero, "#", field).Replace(c)+";")
		ends(t, api.BadField, "print "+strings.NewReplacer("@", field, "#", zero).Replace(c)+";")
	}
	ends(t, api.BadZero, "print 1, 1 / 0, $(-1);")
	ends(t, api.BadField, "print 1, $(-1), 1 / 0;")
}

// P3.4: a field of which the number can't be, or is below 0.
func TestBadFields(t *testing.T) {
	ends(t, api.BadField, "print $(-1);", "print $\"-1\";", "print $-1099511627776;", "print $\"1099511627777\";",
		"print $\"-99999999999999999999\";", "x = $(-1);", "if ($(-1)) { }")
	values(t, "a", "$\"-0\"", "a", "$\"-\"", "a", "$\" 1\"", "a", "$\"1099511627776\"", "", "$\"-x\"", "a")
}

// P3.4: elements of lists, by keys as texts.
func TestLists(t *testing.T) {
	fill := "BEGIN { l[1] = \"one\"; l[\"k\"] = 2; l[\"\"] = 3; l[-4] = 0; l[\"01\"] = \"\"; } "
	for _, c := range [][2]string{
		{"l[1]", "one"}, {"l[\"1\"]", "one"}, {"l[\"01\"]", ""}, {"l[\" 1\"]", "0"}, {"l[\"k\"]", "2"}, {"l[\"\"]", "3"},
		{"l[-4]", "0"}, {"l[\"-4\"]", "0"}, {"l[$1]", "one"}, {"l[l[\"q\"] + 1]", "one"}, {"m[1]", "0"},
		{"1 in l", "1"}, {"\"1\" in l", "1"}, {"\"01\" in l", "1"}, {"\"1 \" in l", "0"}, {"\"\" in l", "1"}, {"-4 in l", "1"},
		{"5 in l", "0"}, {"1 in m", "0"}, {"$1 in l", "1"}, {"$0 in l", "0"}, {"l[5] .. (5 in l)", "00"}, {"l[5] == 0", "1"},
		{"l[5] == \"0\"", "1"}, {"l[5] == \"\"", "0"}, {"l[\"k\"] < 10", "1"}, {"!l[\"01\"]", "1"},
	} {
		check(t, nil, run{fill + "{ print " + c[0] + "; }", "1 x", c[1], api.Done})
	}
}

// P3.4: ends that operators, Neg and functions tell.
func TestEndsOfValues(t *testing.T) {
	ends(t, api.BadZero, "print 1 / 0;", "print 1 % 0;", "print 1 / \"a\";", "x = 0 % x;")
	ends(t, api.BadSize, "print 1099511627776 + 1;", "print -1099511627776 - 1;", "print 1099511627776 * 2;",
		"print -\"1099511627777\";", "print \"9999999999999\" + 1;", "print substr(1, \"9999999999999\", 1);",
		"x = substr(\""+full+"\", 1, 200) .. 1;", "print \"9999999999999\" / 0;")
}

// P3.5: Set and Put.
func TestSetAndPut(t *testing.T) {
	check(t, nil,
		run{"BEGIN { x = 1; y = x; x = \"t\"; print x, y; }", "-", "t 1", api.Done},
		run{"BEGIN { l[1] = 1; l[1] = 2; l[\"1\"] = l[1] + 1; print l[1]; }", "-", "3", api.Done},
		run{"BEGIN { l[1] = 1; m[1] = 2; print l[1], m[1]; }", "-", "1 2", api.Done},
		run{"{ x = $1; l[$1] = $2; $1 = \"z\"; print x, l[x]; }", "a b", "a b", api.Done},
		run{"BEGIN { x = \"2\"; y = 2; print x < 10, y < 10; l[1] = \"2\"; l[2] = 2; print l[1] < 10, l[2] < 10; }", "-", "0 1|0 1",
			api.Done},
	)
	ends(t, api.BadZero, "x = 1 / 0;", "l[1 / 0] = 1;", "l[1] = 1 / 0;", "l[1 / 0] = $(-1);")
	ends(t, api.BadField, "l[$(-1)] = 1 / 0;")
}

const hundred = "while (n < 100) { n = n + 1; l[n] = n; } "

// P3.5: a list has up to MaxKeys keys, whatever stands there.
func TestListsMayNotBeGreater(t *testing.T) {
	check(t, nil,
		run{"BEGIN { " + hundred + "print n, l[100]; l[50] = 1; l[100] = 2; m[1] = 3; print l[100], m[1]; }", "-",
			"100 100|2 3", api.Done},
		run{"BEGIN { " + hundred + "print 1; l[101] = 1; print 2; }", "-", "1", api.BadSize},
		run{"BEGIN { " + hundred + "print l[101], 101 in l; l[\"01\"] = 1; print 2; }", "-", "0 0", api.BadSize},
		run{"BEGIN { " + hundred + "delete l[7]; l[\"x\"] = 1; print 1; l[7] = 1; print 2; }", "-", "1", api.BadSize},
		run{"BEGIN { " + hundred + "l[101] = 1 / 0; }", "-", "-", api.BadZero},
	)
}

// P3.5: Write.
func TestWrite(t *testing.T) {
	show := "print NF, \"<\" .. $0 .. \">\";"
	check(t, nil,
		run{"{ $1 = \"x\"; " + show + "}", "a b", "2 <x b>", api.Done},
		run{"{ $2 = 7; " + show + "}", " a \t b  c ", "3 <a 7 c>", api.Done},
		run{"{ $4 = \"x\"; " + show + " print length($3), $4; }", "a b", "4 <a b  x>|0 x", api.Done},
		run{"{ $3 = \"\"; " + show + "}", "-", "-", api.Done},
		run{"{ $3 = \"\"; " + show + "}", "", "3 <  >", api.Done},
		run{"{ $1 = \"\"; " + show + "}", "", "1 <>", api.Done},
		run{"{ $1 = \"x y\\nz\"; " + show + " print $2; }", "a b", "2 <x y\nz b>|b", api.Done},
		run{"{ $1 = $0; " + show + " $1 = $0; " + show + "}", "a b", "2 <a b b>|2 <a b b b>", api.Done},
		run{"{ $\"2x\" = 1 + 1; $(NF + 1) = -5; " + show + " print $3 < 1, $2 == 2; }", "a b", "3 <a 2 -5>|1 1", api.Done},
		run{"{ $2 = 10; print $2 < 9; }", "a", "1", api.Done},
		run{"{ $100 = 1; print NF, length($0); $101 = 1; print 2; }", "", "100 100", api.BadField},
	)
	ends(t, api.BadField, "$0 = 1;", "$(-1) = 1;", "$101 = 1;", "$\"x\" = 1;", "$\"9999999999999\" = 1;", "$x = 1;",
		"$($(-1)) = 1;", "$1 = $(-1);", "$($(-1)) = 1 / 0;")
	ends(t, api.BadZero, "$0 = 1 / 0;", "$101 = 1 / 0;", "$(1 / 0) = $(-1);", "$1 = 1 / 0;", "$\"9999999999999\" = 1 / 0;")
}

// P3.5: the whole line has up to MaxText bytes.
func TestWriteOfGreatLines(t *testing.T) {
	long := strings.Repeat("y", 198)
	check(t, nil,
		run{"{ $1 = \"" + full + "\"; print length($0); }", "a", "200", api.Done},
		run{"{ $2 = \"" + long + "\"; print length($0); }", "a", "200", api.Done},
		run{"{ $3 = \"" + long + "\"; print length($0); }", "", "200", api.Done},
		run{"{ $3 = \"" + long + "\"; print length($0); }", "a", "-", api.BadSize},
		run{"{ print 1; $2 = \"" + long + "z\"; print 2; }", "a", "1", api.BadSize},
		run{"{ $1 = 1; print length($0); }", full, "1", api.Done},
		run{"{ $2 = \"\"; print length($0); }", full, "-", api.BadSize},
	)
}

// P3.5: Print.
func TestPrint(t *testing.T) {
	half := strings.Repeat("y", 100)
	check(t, nil,
		run{"{ print $1, $3, \"\", 1 - 2, \"a b\", x; }", "p", "p   -1 a b 0", api.Done},
		run{"BEGIN { print \"\"; print \"\", \"\"; print \"a\\nb\"; }", "-", "| |a\nb", api.Done},
		run{"{ print $0; }", full, full, api.Done},
		run{"{ print $0, substr($0, 1, 99); }", half, half + " " + half[1:], api.Done},
		run{"{ print 1; print $0, $0; print 2; }", half, "1", api.BadSize},
		run{"{ print $0, \"\"; }", full, "-", api.BadSize},
		run{"{ print $0, $0, 1 / 0; }", half, "-", api.BadZero},
	)
}

// P3.5: up to MaxOut lines are printed.
func TestPrintOfManyLines(t *testing.T) {
	for _, c := range []struct{ many, end int }{{api.MaxOut - 1, api.Done}, {api.MaxOut, api.Done}, {api.MaxOut + 1, api.BadSize}} {
		source := fmt.Sprintf("BEGIN { while (n < %d) { n = n + 1; print n; } }", c.many)
		o, e := eval.Run(read(t, source), nil, nil, api.MaxFuel)
		many := min(c.many, api.MaxOut)
		if e != api.OK || o.End != c.end || len(o.Lines) != many || o.Lines[many-1] != strconv.Itoa(many) {
			t.Errorf("%s: %d lines, end %d, %v", source, len(o.Lines), o.End, e)
		}
	}
	source := fmt.Sprintf("BEGIN { while (n < %d) { n = n + 1; print n; } print 1 / 0; }", api.MaxOut)
	if o, _ := eval.Run(read(t, source), nil, nil, api.MaxFuel); o.End != api.BadZero {
		t.Errorf("values are asked ahead: end %d", o.End)
	}
}

// P3.5: Branch and While.
func TestBranchAndWhile(t *testing.T) {
	check(t, nil,
		run{"{ if ($1) { print \"y\"; } else { print \"n\"; } }", "0||x", "y|n|y", api.Done},
		run{"{ if ($1 + 0) { print \"y\"; print 2; } print 3; }", "0|1", "3|y|2|3", api.Done},
		run{"{ if ($1 > 1) { } else { if ($1 > 0) { print 1; } else { print 0; } } }", "0|1|2", "0|1", api.Done},
		run{"BEGIN { if (1) { x = 0; print 1; } else { print 2; } }", "-", "1", api.Done},
		run{"BEGIN { if (x) { print 1; } else { x = 1; print 2; } }", "-", "2", api.Done},
		run{"BEGIN { while (x < 3) { x = x + 1; print x; } print \"e\"; }", "-", "1|2|3|e", api.Done},
		run{"BEGIN { while (\"\") { print 1; } while (0) { print 2; } }", "-", "-", api.Done},
		run{"BEGIN { s = \"abc\"; while (s) { print s; s = substr(s, 2, 9); } }", "-", "abc|bc|c", api.Done},
		run{"BEGIN { while (x < 2) { x = x + 1; y = 0; while (y < x) { y = y + 1; print x, y; } } }", "-", "1 1|2 1|2 2", api.Done},
	)
}

// P3.5: Each, in the order of the keys' bytes.
func TestEach(t *testing.T) {
	fill := "l[2] = \"b\"; l[10] = \"a\"; l[\"Z\"] = 1; l[\"\"] = 2; l[-1] = 3; l[\"a\"] = 4; l[\"ab\"] = 5; l[\"a \"] = 6;"
	check(t, nil,
		run{"BEGIN { " + fill + " for (k in l) { print k .. \"=\" .. l[k]; } }", "-", "=2|-1=3|10=a|2=b|Z=1|a=4|a =6|ab=5", api.Done},
		run{"{ l[$1] = 1; } END { for (k in l) { print k; } }", "\xff|z|\u00e9|~", "z|~|\u00e9|\xff", api.Done},
		run{"BEGIN { l[1] = 1; for (k in l) { print k < 10, k == 1; } k = k + 1; print k < 10; }", "-", "1 1|1", api.Done},
		run{"BEGIN { l[9] = 1; for (k in l) { print k < 10; } }", "-", "0", api.Done},
		run{"BEGIN { k = 5; for (k in l) { print k; } print k; l[1] = 1; for (k in l) { } print k; }", "-", "5|1", api.Done},
		run{"BEGIN { l[1] = 1; l[2] = 1; for (k in l) { k = k * 10; print k; } }", "-", "10|20", api.Done},
		run{"BEGIN { l[1] = 1; l[2] = 1; for (a in l) { for (b in l) { print a .. b; } } }", "-", "11|12|21|22", api.Done},
		run{"BEGIN { l[1] = 1; l[2] = 1; for (k in l) { for (k in l) { print k; } print k; } }", "-", "1|2|2|1|2|2", api.Done},
		run{"BEGIN { " + hundred + "for (k in l) { s = s + k; } print s, k; }", "-", "5050 99", api.Done},
	)
}

// P3.5: the keys of an Each are those that the list had ahead of it.
func TestEachWhateverBecomesOfTheList(t *testing.T) {
	files := []api.File{file("f", "p", "q", "r")}
	check(t, files,
		run{"BEGIN { l[1] = 1; l[2] = 1; for (k in l) { print k, k in l; delete l[1]; delete l[2]; } }", "-", "1 1|2 0", api.Done},
		run{"BEGIN { l[1] = 1; l[3] = 1; for (k in l) { print k, l[k]; l[k .. 0] = 1; l[2] = 1; l[3] = 7; } for (k in l) { print k; } }",
			"-", "1 1|3 7|1|10|2|3|30", api.Done},
		run{"BEGIN { l[\"x\"] = 1; l[\"y\"] = 1; for (k in l) { print k, l[k]; load \"f\" l; } for (k in l) { print k; } }",
			"-", "x 1|y 0|1|2|3", api.Done},
	)
}

// P3.5: Next.
func TestNext(t *testing.T) {
	check(t, nil,
		run{"{ print 1; next; print 2; } { print 3; } END { print 4; }", "a|b", "1|1|4", api.Done},
		run{"NR == 1 { next; } { print $0; }", "a|b|c", "b|c", api.Done},
		run{"{ if ($1 == \"a\") { next; } else { print 1; } print 2; } { print 3; }", "a|b", "1|2|3", api.Done},
		run{"{ if ($1 == \"a\") { print 1; } else { next; } print 2; } { print 3; }", "a|b", "1|2|3", api.Done},
		run{"{ while (1) { x = x + 1; if (x > 2) { next; } print x; } print 9; } { print 8; }", "a|b", "1|2", api.Done},
		run{"{ l[1] = 1; l[2] = 1; for (k in l) { print k; next; } print 9; } { print 8; } END { print k; }", "a|b", "1|1|1", api.Done},
		run{"{ while (1) { for (k in l) { while (1) { if (1) { next; } } } l[1] = 1; } } { print 8; } END { print 7; }", "a|b", "7",
			api.Done},
	)
}

// P3.5: Delete.
func TestDelete(t *testing.T) {
	check(t, nil,
		run{"BEGIN { l[1] = 1; l[2] = 2; delete l[1]; print 1 in l, l[1], 2 in l, l[2]; }", "-", "0 0 1 2", api.Done},
		run{"BEGIN { delete l[1]; l[1] = 1; delete l[2]; delete l[\"01\"]; print 1 in l; delete l[\"1\"]; print 1 in l; }", "-",
			"1|0", api.Done},
		run{"BEGIN { l[1] = 1; m[1] = 2; delete l[1]; print l[1], m[1]; for (k in l) { print k; } }", "-", "0 2", api.Done},
		run{"{ delete l[$1]; print $1 in l; l[$1] = 1; print $1 in l; delete l[$1]; print $1 in l; }", "a", "0|1|0", api.Done},
	)
	ends(t, api.BadZero, "delete l[1 / 0];")
}

// P3.5: Load.
func TestLoad(t *testing.T) {
	files := []api.File{file("tab", "one", "2", ""), file("", "x y"), file("none"), file("full", times(api.MaxKeys, "z")...)}
	check(t, files,
		run{"BEGIN { load \"tab\" l; for (k in l) { print k, l[k]; } print l[2] < 10, 0 in l, 4 in l; }", "-", "1 one|2 2|3 |0 0 0",
			api.Done},
		run{"BEGIN { load \"\" l; print l[1], NF; }", "-", "x y 0", api.Done},
		run{"BEGIN { l[1] = 1; l[7] = 1; l[\"k\"] = 1; load \"tab\" l; for (k in l) { print k; } print l[1]; }", "-", "1|2|3|one",
			api.Done},
		run{"BEGIN { load \"tab\" l; load \"none\" l; for (k in l) { print k; } print l[1]; }", "-", "0", api.Done},
		run{"BEGIN { load \"full\" l; print l[100], 101 in l; l[100] = 1; load \"full\" l; print l[100]; l[101] = 1; print 1; }", "-",
			"z 0|z", api.BadSize},
		run{"BEGIN { " + hundred + "l[\"x\"] = 1; }", "-", "-", api.BadSize},
		run{"BEGIN { " + hundred + "load \"tab\" l; l[\"x\"] = 1; print l[3] .. l[4]; }", "-", "0", api.Done},
		run{"BEGIN { load \"tab\" l; load \"tab\" m; l[1] = 5; delete l[2]; print m[1], m[2], l[1], 2 in l; }", "-", "one 2 5 0",
			api.Done},
		run{"BEGIN { load \"tab\" l; l[1] = 5; load \"tab\" l; print l[1]; }", "-", "one", api.Done},
		run{"BEGIN { print 1; load \"Tab\" l; print 2; }", "-", "1", api.BadFile},
		run{"BEGIN { load \"tab \" l; }", "-", "-", api.BadFile},
		run{"BEGIN { if (0) { load \"no\" l; } else { load \"tab\" l; } print l[3] == \"\"; }", "-", "1", api.Done},
	)
	check(t, nil, run{"BEGIN { load \"\" l; }", "-", "-", api.BadFile})
}

// The document's example of the whole.
func TestExampleOfTheWhole(t *testing.T) {
	check(t, []api.File{file("tab", "one", "two")}, run{
		"BEGIN { load \"tab\" a; n = 2 * 3; }\n$1 in a { print a[$1], n; }\nn > 6 { print \"never\"; }", "1|x", "one 6", api.Done})
}

// What is handed in stays as it is, its spare room, too; what comes out is its own, and the same each time.
func TestNothingIsSharedOrKept(t *testing.T) {
	p := read(t, "BEGIN { load \"f\" l; l[1] = 5; delete l[2]; } { $1 = l[1]; $3 = $2; print $0; x = x + 1; print x; }")
	fileLines := append(make([]string, 0, 4), "u", "v")
	files := append(make([]api.File, 0, 3), file("f"))
	files[0].Lines = fileLines
	lines := append(make([]string, 0, 5), "a b", "c d")
	first, _ := eval.Run(p, files, lines, 1000)
	second, _ := eval.Run(p, files, lines, 1000)
	want := api.Outcome{Lines: []string{"5 b b", "1", "5 d d", "2"}, Used: 16}
	if !reflect.DeepEqual(first, want) || !reflect.DeepEqual(second, want) {
		t.Errorf("%v, then %v, want %v", first, second, want)
	}
	first.Lines[0], first.Lines = "changed", append(first.Lines, "more")
	if !reflect.DeepEqual(second, want) {
		t.Error("two answers share a list")
	}
	if !reflect.DeepEqual(lines[:5], []string{"a b", "c d", "", "", ""}) ||
		!reflect.DeepEqual(fileLines[:4], []string{"u", "v", "", ""}) ||
		!reflect.DeepEqual(files[:3], []api.File{{Name: "f", Lines: []string{"u", "v"}}, {}, {}}) {
		t.Error("what was handed in was changed")
	}
	if !reflect.DeepEqual(p, read(t, mustPrint(t, p))) {
		t.Error("the program was changed")
	}
}

func mustPrint(t *testing.T, p api.Program) string {
	t.Helper()
	s, e := syntax.Print(p)
	if e != api.OK {
		t.Fatal(e)
	}
	return s
}
