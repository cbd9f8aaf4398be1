package predict

import (
	"slices"

	"reglet/api"
	"reglet/firsts"
)

// maker makes a table. A look is what may come next: a token, or the end.
type maker struct {
	table    api.Table
	clashes  []api.Clash
	rule, at int    // of the production that is being entered
	selects  []bool // whether each look selects it
	looks    []int  // those that do
}

// newMaker begins with a table in which no production is.
func newMaker(rules, looks int) *maker {
	m := &maker{table: make(api.Table, rules), selects: make([]bool, looks)}
	for i := range m.table {
		m.table[i] = slices.Repeat([]int{-1}, looks)
	}
	return m
}

// enterAll enters all productions in their order, so that the first one of several is the one in the table.
func (m *maker) enterAll(s api.Syntax) {
	empty, first, follow := firsts.Empty(s), firsts.First(s), firsts.Follow(s)
productions:
	for i, p := range s.Prods {
		m.begin(p.Left, i)
		for _, x := range p.Right {
			switch {
			case x.Token:
				m.enter(x.N)
				continue productions
			case !empty[x.N]:
				m.enter(first[x.N]...)
				continue productions
			default:
				m.enter(first[x.N]...)
			}
		}
		m.enter(follow[p.Left]...)
	}
}

// begin goes on to another production, which no look selects as yet. Only what was true is changed, since tokens and productions may be many.
func (m *maker) begin(rule, at int) {
	for _, look := range m.looks {
		m.selects[look] = false
	}
	m.rule, m.at, m.looks = rule, at, m.looks[:0]
}

// enter lets looks select the production. One that does already is passed over: the production is no conflict with itself.
func (m *maker) enter(looks ...int) {
	row := m.table[m.rule]
	for _, look := range looks {
		if m.selects[look] {
			continue
		}
		m.selects[look] = true
		m.looks = append(m.looks, look)
		if row[look] < 0 {
			row[look] = m.at
		} else {
			m.clashes = append(m.clashes, api.Clash{Rule: m.rule, Look: look, One: row[look], Two: m.at})
		}
	}
}
