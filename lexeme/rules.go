package lexeme

import (
	"slices"

	"reglet/api"
	"reglet/grammar"
)

// How far the names in a rule are expanded.
const (
	untouched = iota
	begun
	done
)

// rule is what a name stands for.
type rule struct {
	expr  *api.Expr
	state int
	unit  unit
	size  int
}

// rules is the first rules with their names.
type rules map[string]*rule

func rulesOf(g []api.Rule) rules {
	l := make(rules, len(g))
	for i := range slices.Backward(g) {
		l[g[i].Name] = &rule{expr: &g[i].Expr}
	}
	return l
}

// expansion is a rule whose names are being expanded. It is a list of all such rules: outer is the rule that names this one.
type expansion struct {
	rule  *rule
	names []string // those that are left
	outer *expansion
}

func begin(r *rule, outer *expansion) *expansion {
	r.state = begun
	return &expansion{rule: r, names: grammar.Names(*r.expr), outer: outer}
}

// expand expands all names that a rule needs. It returns the rules that they stand for and the rule itself, each behind those that it names.
func (l rules) expand(whole *rule) (order []*rule, errno api.Errno) {
	for inner := begin(whole, nil); inner != nil; {
		if len(inner.names) == 0 {
			inner.rule.state = done
			order = append(order, inner.rule)
			inner = inner.outer
			continue
		}
		named, ok := l[inner.names[0]]
		inner.names = inner.names[1:]
		switch {
		case !ok:
			errno = api.ErrName
			return
		case named.state == begun:
			// It is in the list. The search goes on, because a name that no rule has comes ahead of that.
			errno = api.ErrLoop
		case named.state == untouched:
			inner = begin(named, inner)
		}
	}
	return
}

// measure notes the unit and the size of a rule. Those of the rules that it names are noted.
func (l rules) measure(r *rule) {
	r.unit = l.unit(r.expr)
	r.size = l.size(r.expr)
}

// size returns how many expressions without kids e has when it is written out, or more than MaxRe if they are more than that. However one counts the expressions that hold these together, all of them are at least as many.
func (l rules) size(e *api.Expr) int {
	n := 1
	switch e.Kind {
	case api.Alt, api.Seq:
		n = 0
		for i := range e.Kids {
			n += l.size(&e.Kids[i])
		}
	case api.Rep:
		switch l.unit(e).often {
		case once:
			n = written(e) * l.size(&e.Kids[0])
		case atMostOnce, anyTimes:
			n = l.size(&e.Kids[0])
		}
	case api.Ref:
		n = l[e.Text].size
	}
	return min(n, api.MaxRe+1)
}

// written returns how often the kid of a repetition stands there when this is written out. Without an end, it stands there once more, to be taken any number of times.
func written(e *api.Expr) int {
	if e.Max < 0 {
		return e.Min + 1
	}
	return e.Max
}
