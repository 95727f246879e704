// Package machine does programs, and keeps what they know: variables, lists, fields, and what was printed. It is a
// package of its own so that what is known behind some rules can be asked by more than those that want the whole run.
//
// Programs, files, lines and fuel that are handed in may be: whoever makes a Machine asks for that ahead.
package machine

import (
	"maps"
	"slices"
	"strings"

	"tillage/api"
	"tillage/value"
)

// Machine: a program, and how far it has come.
type Machine struct {
	vars    map[string]api.Value            // one that is not there is the number 0
	lists   map[string]map[string]api.Value // by name, and then by key
	rules   []api.Rule
	files   []api.File
	fuel    int // in all
	whole   string
	fields  []string
	records int // lines that were begun
	outcome api.Outcome
}

// New: a program of which nothing is done yet.
func New(p api.Program, files []api.File, fuel int) *Machine {
	return &Machine{
		vars:  map[string]api.Value{},
		lists: map[string]map[string]api.Value{},
		rules: p.Rules,
		files: files,
		fuel:  fuel,
	}
}

// Finish does the whole program on lines, as far as it comes, and tells how that went.
func (m *Machine) Finish(lines []string) api.Outcome {
	m.outcome.End = untilEnd(func() {
		m.rulesOf(api.Begin)
		for _, l := range lines {
			m.records++
			m.take(l)
			m.rulesOf(api.Main)
		}
		m.take("")
		m.rulesOf(api.End)
	})
	return m.outcome
}

// Start does the rules of Begin alone, as far as they come, and tells how that went.
func (m *Machine) Start() api.Outcome {
	m.outcome.End = untilEnd(func() { m.rulesOf(api.Begin) })
	return m.outcome
}

// Tell what an expression is now; false: a run that asks for that ends there.
func (m *Machine) Tell(x api.Expr) (api.Value, bool) {
	var v api.Value
	end := untilEnd(func() { v = m.ask(x) })
	return v, end == api.Done
}

// Keys that a list has now, in the order of their bytes.
func (m *Machine) Keys(list string) []string { return slices.Sorted(maps.Keys(m.lists[list])) }

// ending: how a run ends, ahead of its last rule.
type ending int

// untilEnd catches what endIf lets fall.
func untilEnd(run func()) (end int) {
	defer func() {
		if e, ok := recover().(ending); ok {
			end = int(e)
		}
	}()
	run()
	return api.Done
}

// endIf lets the end of a run fall through all rules, statements and expressions that are open.
func endIf(so bool, end int) {
	if so {
		panic(ending(end))
	}
}

func (m *Machine) burn() {
	endIf(m.outcome.Used == m.fuel, api.Spent)
	m.outcome.Used++
}

// take a line as the one that is asked for fields.
func (m *Machine) take(line string) {
	m.whole = line
	m.fields = strings.FieldsFunc(line, func(c rune) bool { return c == ' ' || c == '\t' })
}

func (m *Machine) rulesOf(when int) {
	for _, r := range m.rules {
		if r.When == when && !m.rule(r) {
			return
		}
	}
}

// rule: false, as of statements, if the line is done with.
func (m *Machine) rule(r api.Rule) bool {
	m.burn()
	if r.Has && !m.holds(r.Pattern) {
		return true
	}
	return m.stmts(r.Body)
}

func (m *Machine) holds(x api.Expr) bool { return value.True(m.ask(x)) }
