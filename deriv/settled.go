package deriv

// part is an expression that is not settled yet, with what its first kids have been settled to.
//
// An expression may be nested in itself, and so have no end. The mark is an expression around it, and changes at the depths 1, 2, 4, 8 and so on: what goes on without an end comes upon its mark sooner or later, and nothing else does.
type part[T any] struct {
	re, mark *expr
	depth    int
	kids     []T
}

// settled settles r, and ahead of it those of its kids that it needs, and theirs. The parts that are open are a list, since Go's stack ends at some depth, at which an expression need not. Of an expression that would not end the answer is a zero value.
func settled[T any](r *expr, needsMore func(e *expr, kids []T) bool, settle func(e *expr, kids []T) T) T {
	open := []part[T]{{re: r, depth: 1}}
	for {
		last := &open[len(open)-1]
		if needsMore(last.re, last.kids) {
			next := last.next()
			if next.re == next.mark {
				var nothing T
				return nothing
			}
			open = append(open, next)
			continue
		}
		answer := settle(last.re, last.kids)
		open = open[:len(open)-1]
		if len(open) == 0 {
			return answer
		}
		around := &open[len(open)-1]
		around.kids = append(around.kids, answer)
	}
}

// next returns the kid of a part that comes next.
func (p *part[T]) next() part[T] {
	kid := part[T]{re: (*expr)(&p.re.Kids[len(p.kids)]), mark: p.mark, depth: p.depth + 1}
	if p.depth&(p.depth-1) == 0 {
		kid.mark = p.re
	}
	return kid
}
