package lexeme

import "reglet/api"

// How often a unit is taken. If this is said twice, of a unit and of what it has become, the greater one holds.
const (
	once = iota
	atMostOnce
	anyTimes
	never
)

// unit is an expression and how often it is taken. The expression itself is neither a name nor a repetition that only says how often something is taken in one of these ways.
type unit struct {
	often int
	core  *api.Expr
}

// unit returns what e is behind names and repetitions. There may be very many of these one in the other, which its size does not tell; so each rule notes its unit.
func (l rules) unit(e *api.Expr) unit {
	switch e.Kind {
	case api.Ref:
		return l[e.Text].unit
	case api.Rep:
		kid := l.unit(&e.Kids[0])
		often, ok := oftenOf(e)
		// What derives any number of its texts, or none, derives the same however often it comes.
		if ok || kid.often >= anyTimes {
			return unit{often: max(often, kid.often), core: kid.core}
		}
	}
	return unit{core: e}
}

// oftenOf returns how often a repetition takes its kid, if that is one of the ways in which units are taken.
func oftenOf(e *api.Expr) (often int, ok bool) {
	switch {
	case e.Max == 0:
		return never, true
	case e.Min == 1 && e.Max == 1:
		return once, true
	case e.Min == 0 && e.Max == 1:
		return atMostOnce, true
	case e.Min == 0 && e.Max < 0:
		return anyTimes, true
	}
	return once, false
}
