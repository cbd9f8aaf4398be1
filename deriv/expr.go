package deriv

import (
	"slices"

	"reglet/api"
	"reglet/byteset"
	"reglet/regex"
)

// expr is an expression, with a method for each case of its derivative.
type expr api.Re

// fact is what Deriv finds out about an expression. Whether it is nullable belongs to it, since on that hangs how the derivative of a Cat around it goes on: if each Cat asked for it anew, what is deep would be asked again and again.
type fact struct {
	deriv    api.Re
	nullable bool
}

func (f fact) isNullable() bool { return f.nullable }

func (f fact) isNotNullable() bool { return !f.nullable }

// nullable reports whether e derives the empty string, by whether some of its kids do, and whether all do.
func (e *expr) nullable(some, all bool) bool {
	switch e.Kind {
	case api.Empty, api.Star:
		return true
	case api.Cat:
		return all
	case api.Either:
		return some
	}
	return false
}

// isOpen reports whether it still hangs on the next kid whether e is nullable, behind these first kids.
func (e *expr) isOpen(kids []bool) bool {
	n := len(kids)
	switch e.Kind {
	case api.Cat:
		return n < len(e.Kids) && (n == 0 || kids[n-1])
	case api.Either:
		return n < len(e.Kids) && (n == 0 || !kids[n-1])
	}
	return false
}

// needsMore reports whether the derivative of e is made of the next kid's too, behind these first kids.
func (e *expr) needsMore(kids []fact) bool {
	n := len(kids)
	switch e.Kind {
	case api.Either:
		return n < len(e.Kids)
	case api.Star:
		return n == 0 && len(e.Kids) == 1
	case api.Cat:
		return n < len(e.Kids) && (n == 0 || kids[n-1].nullable)
	}
	return false
}

// found returns what is to be found out about e, by that of the kids that it needs.
func (e *expr) found(kids []fact, b int) fact {
	some, all := slices.ContainsFunc(kids, fact.isNullable), !slices.ContainsFunc(kids, fact.isNotNullable)
	f := fact{nullable: e.nullable(some, all)}
	switch e.Kind {
	case api.Byte:
		f.deriv = e.ofByte(b)
	case api.Either:
		f.deriv = e.ofEither(kids)
	case api.Star:
		f.deriv = e.ofStar(kids)
	case api.Cat:
		f.deriv = e.ofCat(kids)
	}
	return f
}

func (e *expr) ofByte(b int) api.Re {
	if byteset.Has(e.Set, b) {
		return api.Re{Kind: api.Empty}
	}
	return api.Re{Kind: api.None}
}

func (e *expr) ofEither(kids []fact) api.Re {
	var l []api.Re
	for _, k := range kids {
		l = append(l, k.deriv)
	}
	return regex.Either(l)
}

func (e *expr) ofStar(kids []fact) api.Re {
	// A Star that does not have exactly one kid needs none.
	if len(kids) == 0 {
		return api.Re{Kind: api.None}
	}
	return regex.Cat([]api.Re{kids[0].deriv, api.Re(*e)})
}

func (e *expr) ofCat(kids []fact) api.Re {
	var l []api.Re
	for i, k := range kids {
		// A Cat of None and others is None, which Either leaves out: it would be made for nothing.
		if k.deriv.Kind != api.None {
			l = append(l, regex.Cat(append([]api.Re{k.deriv}, e.Kids[i+1:]...)))
		}
	}
	return regex.Either(l)
}
