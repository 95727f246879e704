package spec_test

import (
	"fmt"
	"reflect"
	"slices"
	"strings"
	"testing"

	"tillage/api"
	"tillage/eval"
	"tillage/spec"
	"tillage/syntax"
	"tillage/value"
)

// die: numbers that look drawn, the same each time.
type die uint64

func (d *die) n(most int) int {
	*d = *d*6364136223846793005 + 1442695040888963407
	return int(uint64(*d>>33) % uint64(most))
}

func (d *die) one(l ...string) string { return l[d.n(len(l))] }

// expr: an expression that looks drawn.
func (d *die) expr(n int) string {
	if n <= 0 {
		return d.one("1", "0", "7", "-2", `"t"`, `""`, `"3 q"`, "x", "y", "z", "u", "k", "a[1]", "b[2]", "c[3]", "$1", "NR", "NF",
			"1099511627776")
	}
	l, r := d.expr(n-1), d.expr(n-2)
	switch d.n(11) {
	case 0, 1, 2:
		return "(" + l + d.one(" + ", " - ", " * ", " / ", " % ", " .. ", " < ", " == ", " >= ", " != ") + r + ")"
	case 3, 4:
		return "(" + l + d.one(" && ", " || ") + r + ")"
	case 5:
		return "(" + l + " ? " + r + " : " + d.expr(0) + ")"
	case 6:
		return d.one("a", "b", "c", "e") + "[" + l + "]"
	case 7:
		return "(" + l + " in " + d.one("a", "b", "c", "e") + ")"
	case 8:
		return d.one("length("+l+")", "index("+l+", "+r+")", "substr("+l+", "+r+", 2)")
	case 9:
		return d.one("(-", "(!") + r + ")"
	}
	return "($" + r + ")"
}

// stmt: a statement that looks drawn; place is B, M or E. Few names are changed anywhere, so that many are known.
func (d *die) stmt(n int, place string) string {
	k := d.n(13)
	if n <= 0 {
		k = d.n(8)
	}
	changed, list := d.one("x", "x", "y", "z", "u"), d.one("b", "b", "c", "a")
	if place != "B" && d.n(3) > 0 {
		changed, list = "x", "b"
	}
	switch k {
	case 0, 1, 2:
		return "print " + d.expr(2) + ", " + d.expr(1) + "; "
	case 3:
		return changed + " = " + d.expr(2) + "; "
	case 4:
		return list + "[" + d.expr(1) + "] = " + d.expr(1) + "; "
	case 5:
		return "delete " + list + "[" + d.expr(1) + "]; "
	case 6:
		return "$" + d.one("1", "2", "NF", "z") + " = " + d.expr(1) + "; "
	case 7:
		if place == "M" && d.n(3) == 0 {
			return "next; "
		}
		return changed + " = " + changed + " + 1; "
	case 8, 9:
		return "if (" + d.expr(2) + ") { " + d.stmt(n-1, place) + "} else { " + d.stmt(n-1, place) + "} "
	case 10, 11:
		return "for (k in " + d.one("a", "b", "c", "e") + ") { " + d.stmt(n-1, place) + "print k; } "
	}
	return "while (" + d.one("i < 2", "i < y", "z", "v", d.expr(1)) + ") { i = i + 1; " + d.stmt(0, place) + "} "
}

func (d *die) source() string {
	s := ""
	for range d.n(3) {
		s += "BEGIN { load " + d.one(`"tab" a`, `"big" c`) + "; " + d.stmt(2, "B") + d.stmt(1, "B") + "}\n"
	}
	for range d.n(4) {
		if d.n(2) == 0 {
			s += d.expr(2) + " "
		}
		s += "{ " + d.stmt(2, "M") + d.stmt(1, "M") + "}\n"
	}
	if d.n(2) == 0 {
		s += "BEGIN { " + d.stmt(1, "B") + "}\n"
	}
	return s + "END { " + d.stmt(2, "E") + "print x, y, z; for (k in b) { print k, b[k]; } }\n"
}

func (d *die) files() []api.File {
	l := []string{"one", "2", "", "0"}[:d.n(5)]
	return []api.File{{Name: "tab", Lines: l}, {Name: "big", Lines: times([]int{19, 20, 21, 22}[d.n(4)], "3")}}
}

func (d *die) lines() []string {
	var l []string
	for range d.n(4) {
		l = append(l, d.one("a b", "1 2 3", "", " t\t9", "-1", "2"))
	}
	return l
}

// drawn programs, of which another one can be made, with their files.
func drawn(t *testing.T, n int, do func(d *die, p, q api.Program, files []api.File)) {
	t.Helper()
	d, made := die(n), 0
	for range n {
		p, files := read(t, d.source()), d.files()
		q, e := spec.Spec(p, files, 3000)
		switch e {
		case api.OK:
			made++
			do(&d, p, q, files)
		case api.ErrStop:
			l := slices.DeleteFunc(slices.Clone(p.Rules), func(r api.Rule) bool { return r.When != api.Begin })
			if o, _ := eval.Run(api.Program{Rules: l}, files, nil, 3000); o.End == api.Done {
				t.Errorf("%s\ndoes not stop", text(t, p))
			}
		default:
			t.Errorf("%s\n%v", text(t, p), e)
		}
	}
	if made < n/3 {
		t.Errorf("only %d of %d are made", made, n)
	}
}

// P4.1: what is made does the same, without files, with 4000 units more; as far as both come, if the fuel is used up.
func TestDoesTheSame(t *testing.T) {
	ends := map[int]int{}
	drawn(t, 6000, func(d *die, p, q api.Program, files []api.File) {
		lines := d.lines()
		for _, fuel := range []int{6000, d.n(60)} {
			x, _ := eval.Run(p, files, lines, fuel)
			if x.End != api.Spent {
				fuel = x.Used // it would have been enough
			}
			y, e := eval.Run(q, nil, lines, fuel+4000)
			ends[x.End]++
			same := x.End == y.End && slices.Equal(x.Lines, y.Lines)
			if x.End == api.Spent {
				same = begins(x.Lines, y.Lines)
			}
			if e != api.OK || !same {
				t.Errorf("%s\nbecame %s\non %q: %v; it was %v", text(t, p), text(t, q), lines, y, x)
			}
			few, _ := eval.Run(q, nil, lines, d.n(30))
			if !begins(few.Lines, x.Lines) {
				t.Errorf("%s\nbecame %s\non %q: with less fuel %v; it was %v", text(t, p), text(t, q), lines, few, x)
			}
		}
	})
	for _, end := range []int{api.Done, api.Spent, api.BadZero, api.BadSize, api.BadField} {
		if ends[end] < 10 {
			t.Errorf("only %d runs end %d", ends[end], end)
		}
	}
}

// begins: is one the beginning of the other one?
func begins(a, b []string) bool {
	n := min(len(a), len(b))
	return slices.Equal(a[:n], b[:n])
}

// P4.2: what is made has the form that the chapter says; by what is known of the first one, and of itself.
func TestForm(t *testing.T) {
	drawn(t, 6000, func(_ *die, p, q api.Program, files []api.File) {
		for _, known := range []api.Program{p, q} {
			f := form{known: knownOf(known), keys: keysOf(t, p, files)}
			f.program(q)
			if f.wrong != "" {
				t.Errorf("%s\nbecame %s\n%s", text(t, p), text(t, q), f.wrong)
			}
		}
		if syntax.Check(q) != api.OK || strings.Contains(text(t, q), "load") {
			t.Errorf("%s\nbecame %v", text(t, p), q)
		}
	})
}

// P4.2: what was made so is done again the same way.
func TestDoneAgain(t *testing.T) {
	drawn(t, 6000, func(_ *die, p, q api.Program, _ []api.File) {
		r, e := spec.Spec(q, nil, api.MaxFuel)
		if e != api.OK || text(t, r) != text(t, q) {
			t.Errorf("%s\nbecame %s\nand then %v %s", text(t, p), text(t, q), e, text(t, r))
		}
	})
}

// What is handed in is not changed, and shared with nothing that comes out; no two lists of that share any.
func TestNewMemory(t *testing.T) {
	drawn(t, 1000, func(_ *die, p, _ api.Program, files []api.File) {
		was, filesWere := fmt.Sprint(p), fmt.Sprint(files)
		q, _ := spec.Spec(p, files, 3000)
		if fmt.Sprint(p) != was || fmt.Sprint(files) != filesWere {
			t.Errorf("%s\nwas changed", was)
		}
		at := map[uintptr]int{}
		places(reflect.ValueOf(p), at)
		handed := len(at)
		lists := places(reflect.ValueOf(q), at)
		if len(at) != handed+lists {
			t.Errorf("%s\nshares lists: %d of %d are new", text(t, q), len(at)-handed, lists)
		}
	})
}

// places where lists of a thing lie, and how many lists there are; those without room lie nowhere.
func places(v reflect.Value, at map[uintptr]int) int {
	n := 0
	switch v.Kind() {
	case reflect.Struct:
		for i := range v.NumField() {
			n += places(v.Field(i), at)
		}
	case reflect.Slice:
		if v.Cap() > 0 {
			at[v.Pointer()]++
			n++
		}
		for i := range v.Len() {
			n += places(v.Index(i), at)
		}
	}
	return n
}

// knownOf a program: names that no statement of a rule of Main or End changes.
func knownOf(p api.Program) func(name string) bool {
	changed := map[string]bool{}
	var walk func(l []api.Stmt)
	walk = func(l []api.Stmt) {
		for _, s := range l {
			if s.Kind == api.Set || s.Kind == api.Each || s.Kind == api.Put || s.Kind == api.Delete {
				changed[s.S] = true
			}
			walk(s.Body)
			walk(s.Else)
		}
	}
	for _, r := range p.Rules {
		if r.When != api.Begin {
			walk(r.Body)
		}
	}
	return func(name string) bool { return !changed[name] }
}

// keysOf lists behind the rules of Begin: how many there are.
func keysOf(t *testing.T, p api.Program, files []api.File) func(list string) int {
	l := slices.DeleteFunc(slices.Clone(p.Rules), func(r api.Rule) bool { return r.When != api.Begin })
	ahead, _ := eval.Run(api.Program{Rules: l}, files, nil, 3000)
	return func(list string) int {
		end := read(t, "END { for (k in "+list+") { print k; } }").Rules
		o, _ := eval.Run(api.Program{Rules: append(slices.Clip(l), end...)}, files, nil, 6000)
		return len(o.Lines) - len(ahead.Lines)
	}
}

// form looks for what must not be in what was made.
type form struct {
	known func(name string) bool
	keys  func(list string) int
	wrong string
	names map[string]bool // that stand in rules of Main and End
	great bool            // would it be too great, if each Each that is known were written out?
}

// stays: an Each over a list that is not known, or has too many keys.
func (f *form) stays(list string) bool { return !f.known(list) || f.keys(list) > 20 }

// size of what statements would be, if each Each that is known were written out.
func (f *form) size(l []api.Stmt) int {
	n := 0
	for _, s := range l {
		if body := f.size(s.Body); s.Kind == api.Each && !f.stays(s.T) {
			n += f.keys(s.T) * (2 + body)
		} else {
			n += 1 + body + f.size(s.Else)
		}
		for _, x := range s.Exprs {
			n += nodes(x)
		}
	}
	return n
}

func (f *form) must(so bool, what string, x any) {
	if !so && f.wrong == "" {
		f.wrong = fmt.Sprintf("%s: %v", what, x)
	}
}

func (f *form) program(p api.Program) {
	f.names = map[string]bool{}
	all := 0
	for _, r := range p.Rules {
		all += f.size(r.Body)
		if r.Has {
			all += nodes(r.Pattern)
		}
	}
	f.great = all > api.MaxNodes
	for i, r := range p.Rules {
		f.must(r.When != api.Begin || i == 0 && len(r.Body) > 0, "a rule of Begin", r)
		if r.When == api.Begin {
			continue
		}
		if r.Has {
			f.must(!isConstant(r.Pattern), "a Pattern that is a constant", r)
			f.expr(r.Pattern)
		}
		f.stmts(r.Body)
	}
	if len(p.Rules) > 0 && p.Rules[0].When == api.Begin {
		for _, s := range p.Rules[0].Body {
			f.must(s.Kind == api.Print || (s.Kind == api.Set || s.Kind == api.Put) && f.names[s.S], "of Begin", s)
			for _, x := range s.Exprs {
				f.must(isConstant(x), "of Begin, no constant", s)
			}
		}
	}
}

func (f *form) stmts(l []api.Stmt) {
	for _, s := range l {
		f.names[s.S], f.names[s.T] = true, true
		f.must(s.Kind != api.Load, "a Load", s)
		f.must(s.Kind != api.Branch || !isConstant(s.Exprs[0]), "a Branch that is known", s)
		f.must(s.Kind != api.While || !isConstant(s.Exprs[0]) || holds(s.Exprs[0]), "a While that never holds", s)
		f.must(s.Kind != api.Each || f.stays(s.T) || f.great, "an Each that is known", s)
		for _, x := range s.Exprs {
			f.expr(x)
		}
		f.stmts(s.Body)
		f.stmts(s.Else)
	}
}

func (f *form) expr(x api.Expr) {
	for _, y := range x.Args {
		f.expr(y)
	}
	all := !slices.ContainsFunc(x.Args, func(y api.Expr) bool { return !isConstant(y) })
	switch x.Kind {
	case api.Var:
		f.names[x.S] = true
		f.must(!f.known(x.S), "a variable that is known", x)
	case api.Elem, api.In:
		f.names[x.S] = true
		f.must(!f.known(x.S) || !all, "of a list that is known, at a constant", x)
	case api.If:
		f.must(!isConstant(x.Args[0]), "an If that is known", x)
	case api.Op, api.Neg, api.Not, api.Call:
		f.must(!all || isConstant(x) || !told(x), "of constants", x)
		if x.S == "&&" || x.S == "||" {
			f.must(!isConstant(x.Args[0]) || holds(x.Args[0]) == (x.S == "&&"), "a first side that tells", x)
		}
	}
}

func isConstant(x api.Expr) bool {
	return x.Kind == api.Num || x.Kind == api.Str || x.Kind == api.Neg && x.Args[0].Kind == api.Num
}

func valueOf(x api.Expr) api.Value {
	switch x.Kind {
	case api.Num:
		return value.Number(x.N)
	case api.Str:
		return value.Text(x.S)
	}
	return value.Number(-x.Args[0].N)
}

func holds(x api.Expr) bool { return value.True(valueOf(x)) }

// told: does an expression whose Args are constants come to no end?
func told(x api.Expr) bool {
	p := program(api.Rule{When: api.End, Body: []api.Stmt{{Kind: api.Set, S: "x", Exprs: []api.Expr{x}}}})
	o, _ := eval.Run(p, nil, nil, 9)
	return o.End == api.Done
}
