package sense

import "reglet/api"

// node is an expression with the numbers of its kids among the nodes. All names of a rule are one node, so that a rule that comes back to itself has an end.
type node struct {
	expr *api.Expr
	kids []int
}

// isSigns reports whether n derives its texts without kids.
func (n node) isSigns() bool {
	switch n.expr.Kind {
	case api.Fold, api.Nums, api.Span:
		return true
	}
	return false
}

// next returns the kids of which one comes next when so many have come.
func (n node) next(done int) []int {
	switch n.expr.Kind {
	case api.Alt, api.Ref:
		if done == 0 {
			return n.kids
		}
	case api.Seq:
		if done < len(n.kids) {
			return n.kids[done : done+1]
		}
	case api.Rep:
		if n.expr.Max < 0 || done < n.expr.Max {
			return n.kids
		}
	}
	return nil
}

// isWhole reports whether n may end when so many kids have come.
func (n node) isWhole(done int) bool {
	switch n.expr.Kind {
	case api.Alt, api.Ref:
		return done == 1
	case api.Seq:
		return done == len(n.kids)
	case api.Rep:
		return done >= n.expr.Min && (n.expr.Max < 0 || done <= n.expr.Max)
	}
	return false
}

// isLast reports whether n ends wherever the kid that comes next ends, and nowhere else.
func (n node) isLast(done int) bool {
	return n.isWhole(done+1) && len(n.next(done+1)) == 0
}

// counted returns how many kids have come when one more has, which is empty or not.
//
// An empty kid of a Rep comes as often as its Min needs it. Without a Max, what is beyond the Min is not counted. So the counts have an end, whatever Min and Max are.
func (n node) counted(done int, empty bool) int {
	isRep := n.expr.Kind == api.Rep
	switch {
	case isRep && empty:
		return max(done, n.expr.Min)
	case isRep && n.expr.Max < 0 && done >= n.expr.Min:
		return done
	}
	return done + 1
}
