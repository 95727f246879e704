package spec

import (
	"maps"
	"slices"

	"tillage/api"
	"tillage/value"
)

// whole: the program of these rules, with one of Begin ahead of them, if there is anything to do in it.
func (b begun) whole(rules []api.Rule) api.Program {
	body := b.begin(namesOf(rules).kinds)
	if len(body) == 0 {
		return api.Program{Rules: rules}
	}
	return api.Program{Rules: append([]api.Rule{{When: api.Begin, Body: body}}, rules...)}
}

// begin: statements that print what was printed, and make these names what they are. Of more than there may be, only
// so many are made that it is seen.
func (b begun) begin(kinds map[string]int) []api.Stmt {
	var all []api.Stmt
	for _, line := range b.lines {
		all = append(all, printed(line))
	}
	for _, name := range slices.Sorted(maps.Keys(kinds)) {
		if len(all) > api.MaxNodes {
			return all
		}
		if kinds[name] == list {
			all = append(all, b.puts(name)...)
		} else {
			all = append(all, b.sets(name)...)
		}
	}
	return all
}

// sets: none, of a variable that is what all are at first.
func (b begun) sets(name string) []api.Stmt {
	v, _ := b.Tell(api.Expr{Kind: api.Var, S: name})
	if v == value.Number(0) {
		return nil
	}
	return []api.Stmt{set(name, v)}
}

func (b begun) puts(name string) []api.Stmt {
	var all []api.Stmt
	for _, key := range b.Keys(name) {
		v, _ := b.Tell(api.Expr{Kind: api.Elem, S: name, Args: []api.Expr{written(value.Text(key))}})
		all = append(all, put(name, key, v))
	}
	return all
}
