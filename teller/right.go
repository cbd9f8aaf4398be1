package teller

import (
	"slices"

	"reglet/api"
)

const (
	// greatest is the greatest number that an expression may have.
	greatest = 1114111

	// mostNumbers is how many numbers an expression may have.
	mostNumbers = 10000
)

func isRightLine(l api.Line) bool {
	return Name(l.Name) && Right(l.Expr)
}

// isRight reports whether e, which is nested in depth others, and all expressions in it are valid.
func isRight(e api.Expr, depth int) bool {
	// The depth is asked ahead of the kids: an expression may be nested without end.
	return depth <= api.MaxDepth && hasForm(e) && hasNoOtherFields(e) && all(e.Kids, func(kid api.Expr) bool {
		return isRight(kid, depth+1)
	})
}

// hasForm reports whether the fields that the kind of e has are valid, apart from what is in the kids.
func hasForm(e api.Expr) bool {
	switch e.Kind {
	case api.Alt, api.Seq:
		return len(e.Kids) >= 2
	case api.Rep:
		return len(e.Kids) == 1 && isCount(e.Min, e.Max)
	case api.Ref:
		return Name(e.Text)
	case api.Fold:
		return all([]byte(e.Text), isInFold)
	case api.Nums:
		return len(e.N) >= 1 && len(e.N) <= mostNumbers && all(e.N, isNumber)
	case api.Span:
		return len(e.N) == 2 && all(e.N, isNumber) && e.N[0] <= e.N[1]
	}
	return false
}

// hasNoOtherFields reports whether the fields that the kind of e does not have are 0 or empty.
func hasNoOtherFields(e api.Expr) bool {
	others := e
	if isOf(e, api.Alt, api.Seq, api.Rep) {
		others.Kids = nil
	}
	if isOf(e, api.Rep) {
		others.Min, others.Max = 0, 0
	}
	if isOf(e, api.Ref, api.Fold) {
		others.Text = ""
	}
	if isOf(e, api.Nums, api.Span) {
		others.N = nil
	}
	return others.Text == "" && len(others.N) == 0 && others.Min == 0 && others.Max == 0 && len(others.Kids) == 0
}

// isOf reports whether e is of one of these kinds.
func isOf(e api.Expr, kinds ...int) bool {
	return slices.Contains(kinds, e.Kind)
}

func isCount(least, most int) bool {
	return least >= 0 && least <= api.MaxRepeat && (most == -1 || most >= least && most <= api.MaxRepeat)
}

func isNumber(n int) bool {
	return n >= 0 && n <= greatest
}

func isSmall(c byte) bool {
	return 'a' <= c && c <= 'z'
}

func isInName(c byte) bool {
	return isSmall(c) || '0' <= c && c <= '9' || c == '-'
}

func isInFold(c byte) bool {
	return ' ' <= c && c <= '~' && c != '"' && (c < 'A' || c > 'Z')
}

// all reports whether each item of a list is one that is wanted.
func all[T any](l []T, wanted func(T) bool) bool {
	return !slices.ContainsFunc(l, func(item T) bool { return !wanted(item) })
}
