package grammar

import (
	"iter"
	"slices"

	"reglet/api"
)

// deepest is how deep visit recurs: Go's stack ends at some depth, at which an expression need not.
const deepest = 10000

// level is expressions that stand side by side.
//
// An expression may be nested in itself, and so have no end. The mark is an expression around the level, and changes at the depths 1, 2, 4, 8 and so on: what is nested in itself comes upon its mark sooner or later, and nothing else does.
type level struct {
	exprs []api.Expr
	mark  *api.Expr
	depth int
}

// below returns the level of the kids of e, which stands in l.
func (l level) below(e *api.Expr) level {
	mark := l.mark
	if l.depth&(l.depth-1) == 0 {
		mark = e
	}
	return level{exprs: e.Kids, mark: mark, depth: l.depth + 1}
}

// names returns an iterator over the names in e, in order.
func names(e api.Expr) iter.Seq[string] {
	return func(yield func(string) bool) {
		waiting := []level{{exprs: []api.Expr{e}, depth: 1}}
		for len(waiting) > 0 {
			last := len(waiting) - 1
			left, more := visit(waiting[last], deepest, yield)
			if !more {
				return
			}
			slices.Reverse(left)
			waiting = append(waiting[:last], left...)
		}
	}
}

// visit yields the names in a level, and reports whether more of them are wanted. What is too deep it returns, and behind it what comes after it.
func visit(l level, room int, yield func(string) bool) (left []level, more bool) {
	if room == 0 {
		return []level{l}, true
	}
	for i := range l.exprs {
		e := &l.exprs[i]
		if e == l.mark || e.Kind == api.Ref && !yield(e.Text) {
			return nil, false
		}
		left, more = visit(l.below(e), room-1, yield)
		if !more {
			return nil, false
		}
		if len(left) > 0 {
			l.exprs = l.exprs[i+1:]
			return append(left, l), true
		}
	}
	return nil, true
}
