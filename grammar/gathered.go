package grammar

import (
	"slices"

	"reglet/api"
)

// gathered is rules of different names, with the index of each by its name.
type gathered struct {
	rules  []api.Rule
	places map[string]int
}

func (g *gathered) add(r api.Rule) {
	g.places[r.Name] = len(g.rules)
	g.rules = append(g.rules, r)
}

// take adds the rule of a valid line, or adds the line's alternatives to the rule that is there.
func (g *gathered) take(l api.Line) api.Errno {
	place, known := g.places[l.Name]
	if known != l.More {
		return api.ErrTwice
	}
	// Copied, because an answer is to be memory of its own, in which what is merged may then grow.
	e := copied(l.Expr)
	if !known {
		g.add(api.Rule{Name: l.Name, Expr: e})
		return api.OK
	}
	kids := append(alternatives(g.rules[place].Expr), alternatives(e)...)
	g.rules[place].Expr = api.Expr{Kind: api.Alt, Kids: kids}
	return api.OK
}

// complete adds the core rules that are named, in the core rules that it adds too, and not there.
func (g *gathered) complete() api.Errno {
	core := Core()
	for i := 0; i < len(g.rules); i++ {
		for name := range names(g.rules[i].Expr) {
			if _, known := g.places[name]; known {
				continue
			}
			place := Find(core, name)
			if place < 0 {
				return api.ErrName
			}
			g.add(core[place])
		}
	}
	return api.OK
}

func alternatives(e api.Expr) []api.Expr {
	if e.Kind == api.Alt {
		return e.Kids
	}
	return []api.Expr{e}
}

func copied(e api.Expr) api.Expr {
	e.N = slices.Clone(e.N)
	e.Kids = slices.Clone(e.Kids)
	for i, kid := range e.Kids {
		e.Kids[i] = copied(kid)
	}
	return e
}
