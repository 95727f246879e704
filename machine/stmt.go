package machine

import (
	"slices"
	"strings"

	"tillage/api"
	"tillage/value"
)

// stmts: false, if a Next was met: nothing more is done for this line then.
func (m *Machine) stmts(l []api.Stmt) bool {
	for _, s := range l {
		if !m.stmt(s) {
			return false
		}
	}
	return true
}

func (m *Machine) stmt(s api.Stmt) bool {
	m.burn()
	switch s.Kind {
	case api.Branch:
		return m.branch(s)
	case api.While:
		return m.while(s)
	case api.Each:
		return m.each(s)
	case api.Next:
		return false
	}
	m.plain(s)
	return true
}

// plain: a statement that has no others in it.
func (m *Machine) plain(s api.Stmt) {
	switch s.Kind {
	case api.Set:
		m.vars[s.S] = m.ask(s.Exprs[0])
	case api.Put:
		key := m.text(s.Exprs[0])
		m.put(s.S, key, m.ask(s.Exprs[1]))
	case api.Write:
		number := m.ask(s.Exprs[0])
		m.write(number, m.text(s.Exprs[1]))
	case api.Print:
		m.print(s.Exprs)
	case api.Delete:
		delete(m.lists[s.S], m.text(s.Exprs[0]))
	case api.Load:
		m.load(s.S, s.T)
	}
}

func (m *Machine) branch(s api.Stmt) bool {
	if m.holds(s.Exprs[0]) {
		return m.stmts(s.Body)
	}
	return m.stmts(s.Else)
}

func (m *Machine) while(s api.Stmt) bool {
	for m.holds(s.Exprs[0]) {
		m.burn()
		if !m.stmts(s.Body) {
			return false
		}
	}
	return true
}

// each takes its keys ahead: what the Body does to the list does not matter.
func (m *Machine) each(s api.Stmt) bool {
	for _, key := range m.Keys(s.T) {
		m.burn()
		m.vars[s.S] = value.Text(key)
		if !m.stmts(s.Body) {
			return false
		}
	}
	return true
}

func (m *Machine) put(list, key string, v api.Value) {
	if m.lists[list] == nil {
		m.lists[list] = map[string]api.Value{}
	}
	m.lists[list][key] = v
	endIf(len(m.lists[list]) > api.MaxKeys, api.BadSize)
}

func (m *Machine) write(number api.Value, text string) {
	n, e := value.Num(number)
	endIf(e != api.OK || n < 1 || n > api.MaxKeys, api.BadField)
	for len(m.fields) < n {
		m.fields = append(m.fields, "")
	}
	m.fields[n-1] = text
	m.whole = strings.Join(m.fields, " ")
	endIf(len(m.whole) > api.MaxText, api.BadSize)
}

func (m *Machine) print(l []api.Expr) {
	var texts []string
	for _, x := range l {
		texts = append(texts, m.text(x))
	}
	line := strings.Join(texts, " ")
	endIf(len(line) > api.MaxText || len(m.outcome.Lines) == api.MaxOut, api.BadSize)
	m.outcome.Lines = append(m.outcome.Lines, line)
}

func (m *Machine) load(list, name string) {
	i := slices.IndexFunc(m.files, func(f api.File) bool { return f.Name == name })
	endIf(i < 0, api.BadFile)
	// A new map: nothing that stood in the list before stays.
	m.lists[list] = map[string]api.Value{}
	for n, line := range m.files[i].Lines {
		m.put(list, value.Str(value.Number(n+1)), value.Text(line))
	}
}
