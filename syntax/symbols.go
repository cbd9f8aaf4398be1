package syntax

import (
	"slices"

	"reglet/api"
)

// sequence returns the symbols of an alternative.
func (b *builder) sequence(e *api.Expr) (symbols []api.Sym) {
	elements := parts(e, api.Seq)
	for i := range elements {
		more := b.element(&elements[i])
		// Once they are too many, there is no need to keep them all. But all have to be asked for, since another error may come with one of them.
		if len(symbols) <= mostSymbols {
			symbols = append(symbols, more...)
		}
	}
	return
}

// element returns the symbols of an element.
func (b *builder) element(e *api.Expr) (symbols []api.Sym) {
	switch e.Kind {
	case api.Ref:
		symbols = append(symbols, b.named(e.Text))
	case api.Alt, api.Seq:
		symbols = append(symbols, b.newGroup(e))
	case api.Rep:
		symbols = b.repetition(e)
	default:
		// An empty Fold has neither, and needs no token.
		if e.Text != "" || len(e.N) > 0 {
			symbols = append(symbols, b.token(e))
		}
	}
	return
}

// named returns what a name stands for.
func (b *builder) named(name string) api.Sym {
	symbol, ok := b.symbols[name]
	if !ok {
		refuse(api.ErrName)
	}
	return symbol
}

// token returns the token without a name that has an expression.
func (b *builder) token(e *api.Expr) api.Sym {
	k := key(e)
	n, ok := b.unnamed[k]
	if !ok {
		n = len(b.syntax.Tokens)
		b.unnamed[k] = n
		b.syntax.Tokens = append(b.syntax.Tokens, api.Token{Expr: api.Expr{Kind: e.Kind, Text: e.Text, N: slices.Clone(e.N)}})
	}
	return api.Sym{Token: true, N: n}
}

// key returns a text that no other Fold, Nums or Span has. The numbers of valid ones have three bytes.
func key(e *api.Expr) string {
	k := append([]byte{byte(e.Kind)}, e.Text...)
	for _, n := range e.N {
		k = append(k, byte(n>>16), byte(n>>8), byte(n))
	}
	return string(k)
}

// repetition returns the symbols of a repetition: one symbol as often as it must come, and then a rule for what may come.
func (b *builder) repetition(e *api.Expr) (symbols []api.Sym) {
	x := b.single(&e.Kids[0])
	symbols = slices.Repeat([]api.Sym{x}, e.Min)
	switch {
	case e.Max < 0:
		symbols = append(symbols, b.newStar(x))
	case e.Max > e.Min:
		symbols = append(symbols, b.newOption(x, e.Max-e.Min))
	}
	return
}

// single returns the only symbol of an element, or else a group of it. The rules and tokens that came with symbols that are not the only one stay, as the document has it.
func (b *builder) single(e *api.Expr) api.Sym {
	if symbols := b.element(e); len(symbols) == 1 {
		return symbols[0]
	}
	return b.newGroup(e)
}

// newGroup adds a rule for an expression.
func (b *builder) newGroup(e *api.Expr) api.Sym {
	return b.addNew(func() { b.group(e) })
}

// newStar adds a rule for any number of a symbol.
func (b *builder) newStar(x api.Sym) api.Sym {
	return b.addNew(func() {
		b.produce(x, api.Sym{N: b.current})
		b.produce()
	})
}

// newOption adds a rule for a symbol up to so many times.
func (b *builder) newOption(x api.Sym, most int) api.Sym {
	return b.addNew(func() {
		right := []api.Sym{x}
		if most > 1 {
			right = append(right, b.newOption(x, most-1))
		}
		b.produce(right...)
		b.produce()
	})
}
