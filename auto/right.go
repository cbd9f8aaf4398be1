package auto

import (
	"slices"

	"reglet/api"
	"reglet/regex"
)

// Right reports whether a is valid.
func Right(a api.Auto) bool {
	classes, ordered := countClasses(a.Class)
	if !ordered || len(a.Tag) != len(a.Next) || slices.ContainsFunc(a.Tag, isNegative) {
		return false
	}
	isNoSuccessor := func(n int) bool { return n < nowhere || n >= len(a.Next) }
	for _, row := range a.Next {
		if len(row) != classes || slices.ContainsFunc(row, isNoSuccessor) {
			return false
		}
	}
	return true
}

// countClasses returns how many classes there are, and whether they are numbered in the order of the bytes.
func countClasses(classes [256]int) (int, bool) {
	n := 0
	for _, class := range classes {
		if class < 0 || class > n {
			return 0, false
		}
		if class == n {
			n++
		}
	}
	return n, true
}

func isNegative(n int) bool { return n < 0 }

func isWrong(r api.Re) bool { return !regex.Right(r) }
