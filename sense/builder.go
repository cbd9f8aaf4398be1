package sense

import (
	"slices"

	"reglet/api"
)

// nothing is the node of a name that no rule has.
const nothing = 0

// builder makes the nodes of the expressions that a name needs.
type builder struct {
	grammar []api.Rule
	places  map[string]int // the indexes of the first rules with their names
	roots   map[string]int // the nodes of the rules that are named
	nodes   []node
	waiting []unfinished
}

// unfinished is a node whose kids are no nodes yet.
//
// An expression may be nested in itself, and so have no end. The mark is an expression around the node, and changes at the depths 1, 2, 4, 8 and so on: what is nested in itself comes upon its mark sooner or later, and nothing else does.
type unfinished struct {
	node  int
	mark  *api.Expr
	depth int
}

// nodesOf returns the nodes that a name needs, and the one of the name. If an expression has no end, that is nothing.
func nodesOf(g []api.Rule, name string) (nodes []node, root int) {
	b := builder{grammar: g, places: map[string]int{}, roots: map[string]int{}, nodes: []node{{expr: &api.Expr{}}}}
	for i := range slices.Backward(g) {
		b.places[g[i].Name] = i
	}
	root = b.add(&api.Expr{Kind: api.Ref, Text: name}, nil, 1)
	for len(b.waiting) > 0 {
		last := len(b.waiting) - 1
		u := b.waiting[last]
		b.waiting = b.waiting[:last]
		if b.nodes[u.node].expr == u.mark {
			return b.nodes, nothing
		}
		b.finish(u)
	}
	return b.nodes, root
}

// add returns a new node, which waits for its kids.
func (b *builder) add(e, mark *api.Expr, depth int) int {
	n := len(b.nodes)
	b.nodes = append(b.nodes, node{expr: e})
	b.waiting = append(b.waiting, unfinished{node: n, mark: mark, depth: depth})
	return n
}

// finish gives a node its kids.
func (b *builder) finish(u unfinished) {
	e := b.nodes[u.node].expr
	mark := u.mark
	if u.depth&(u.depth-1) == 0 {
		mark = e
	}
	var kids []int
	switch e.Kind {
	case api.Ref:
		kids = []int{b.root(e.Text)}
	case api.Alt, api.Seq, api.Rep:
		for i := range e.Kids {
			kids = append(kids, b.kid(&e.Kids[i], mark, u.depth+1))
		}
	}
	b.nodes[u.node].kids = kids
}

// kid returns the node of a kid: that of a rule, if the kid names it.
func (b *builder) kid(e, mark *api.Expr, depth int) int {
	if e.Kind == api.Ref {
		return b.root(e.Text)
	}
	return b.add(e, mark, depth)
}

// root returns the node of the rule with a name.
func (b *builder) root(name string) int {
	if n, ok := b.roots[name]; ok {
		return n
	}
	place, ok := b.places[name]
	if !ok {
		return nothing
	}
	n := b.add(&b.grammar[place].Expr, nil, 1)
	b.roots[name] = n
	return n
}
