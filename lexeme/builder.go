package lexeme

import (
	"reglet/api"
	"reglet/regex"
)

// builder builds the regular expressions of units. What is repeated is built anew each time, so that the lists of an answer share no memory.
type builder struct {
	rules rules
	utf   bool
}

func (b builder) regex(u unit) api.Re {
	single := unit{core: u.core}
	switch u.often {
	case never:
		return api.Re{Kind: api.Empty}
	case anyTimes:
		return regex.Star(b.regex(single))
	case atMostOnce:
		return option(b.regex(single))
	}
	switch u.core.Kind {
	case api.Alt, api.Span:
		return regex.Either(b.choices(nil, u))
	}
	return regex.Cat(b.parts(nil, u))
}

// choices adds expressions to a list, of which one or the other derives what a unit derives.
func (b builder) choices(l []api.Re, u unit) []api.Re {
	switch {
	case u.often == once && u.core.Kind == api.Alt:
		for i := range u.core.Kids {
			l = b.choices(l, b.rules.unit(&u.core.Kids[i]))
		}
		return l
	case u.often == once && u.core.Kind == api.Span:
		return append(l, spanned(u.core.N[0], u.core.N[1], b.utf)...)
	}
	return append(l, b.regex(u))
}

// parts adds expressions to a list that, one after the other, derive what a unit derives.
func (b builder) parts(l []api.Re, u unit) []api.Re {
	if u.often != once {
		return append(l, b.regex(u))
	}
	switch u.core.Kind {
	case api.Seq:
		for i := range u.core.Kids {
			l = b.parts(l, b.rules.unit(&u.core.Kids[i]))
		}
		return l
	case api.Rep:
		return b.repeated(l, u.core)
	case api.Fold:
		return append(l, folded(u.core.Text)...)
	case api.Nums:
		return append(l, numbered(u.core.N, b.utf)...)
	}
	return append(l, b.regex(u))
}

// repeated adds the kid of a repetition as often as it must come, and then what may come.
func (b builder) repeated(l []api.Re, e *api.Expr) []api.Re {
	kid, least := b.rules.unit(&e.Kids[0]), e.Min
	if kid.often == atMostOnce {
		// Each of them may be left out, so that none has to come.
		kid.often, least = once, 0
	}
	for range least {
		l = b.parts(l, kid)
	}
	if e.Max < 0 {
		return append(l, b.regex(unit{often: anyTimes, core: kid.core}))
	}
	return append(l, b.upTo(kid, e.Max-least))
}

// upTo returns what derives a unit up to so many times. Each time stands in the option of the one before: were they options side by side, the automaton would have to ask for each of them which times are left out.
func (b builder) upTo(u unit, most int) api.Re {
	r := api.Re{Kind: api.Empty}
	for range most {
		r = option(regex.Cat(append(b.parts(nil, u), r)))
	}
	return r
}

// option returns what derives the empty string, and what r derives.
func option(r api.Re) api.Re {
	empty := api.Re{Kind: api.Empty}
	if r.Kind == api.Cat {
		// A bracket, with which the text of r begins, comes ahead of the text of Empty. Either would find the same, but it would write the whole text of r, and with options in options so all of it again and again.
		return api.Re{Kind: api.Either, Kids: []api.Re{r, empty}}
	}
	return regex.Either([]api.Re{empty, r})
}
