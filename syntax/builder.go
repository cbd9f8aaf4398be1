package syntax

import (
	"strconv"

	"reglet/api"
	"reglet/grammar"
)

// mostSymbols is how many symbols a production may have.
const mostSymbols = 200

// refusal is what is panicked with where the conversion can't go on.
type refusal struct{ errno api.Errno }

func refuse(errno api.Errno) {
	panic(refusal{errno})
}

// builder is a syntax that is being built.
type builder struct {
	syntax   api.Syntax
	rules    map[string]*api.Expr // those that are no tokens
	symbols  map[string]api.Sym   // what may be named
	unnamed  map[string]int       // tokens without names, by their keys
	contents []func()             // those of each rule, which create its productions when its turn comes
	current  int                  // the rule whose turn it is
	created  int                  // how many rules are new
}

// newBuilder begins with the tokens that have names, of which the last ones are skipped.
func newBuilder(rules map[string]*api.Expr, named []string, skip int) *builder {
	b := &builder{rules: rules, symbols: map[string]api.Sym{}, unnamed: map[string]int{}}
	b.syntax.Named, b.syntax.Skip = len(named), skip
	for i, name := range named {
		b.syntax.Tokens = append(b.syntax.Tokens, api.Token{Name: name, Expr: api.Expr{Kind: api.Ref, Text: name}})
		if i < len(named)-skip {
			b.symbols[name] = api.Sym{Token: true, N: i}
		}
		delete(rules, name)
	}
	return b
}

// add adds a rule.
func (b *builder) add(name string, contents func()) api.Sym {
	b.syntax.Names = append(b.syntax.Names, name)
	b.contents = append(b.contents, contents)
	return api.Sym{N: len(b.contents) - 1}
}

// reach adds the start rule, and all rules that are named in those that are there.
func (b *builder) reach(start string) {
	b.addNamed(start)
	for i := 0; i < len(b.syntax.Names); i++ {
		for _, name := range grammar.Names(*b.rules[b.syntax.Names[i]]) {
			b.addNamed(name)
		}
	}
}

// addNamed adds the rule with a name, if there is one and it is not there yet.
func (b *builder) addNamed(name string) {
	e := b.rules[name]
	_, there := b.symbols[name]
	if e != nil && !there {
		b.symbols[name] = b.add(name, func() { b.group(e) })
	}
}

// addNew adds a rule that the grammar has not.
func (b *builder) addNew(contents func()) api.Sym {
	if len(b.contents) >= api.MaxProds {
		refuse(api.ErrLong)
	}
	name := b.syntax.Names[b.current] + "." + strconv.Itoa(b.created)
	b.created++
	return b.add(name, contents)
}

// produceAll creates the productions of all rules, including those that are added by it.
func (b *builder) produceAll() {
	for ; b.current < len(b.contents); b.current++ {
		b.contents[b.current]()
	}
}

// produce creates a production of the current rule.
func (b *builder) produce(right ...api.Sym) {
	if len(right) > mostSymbols || len(b.syntax.Prods) >= api.MaxProds {
		refuse(api.ErrLong)
	}
	b.syntax.Prods = append(b.syntax.Prods, api.Prod{Left: b.current, Right: right})
}

// group creates a production for each alternative of an expression.
func (b *builder) group(e *api.Expr) {
	alternatives := parts(e, api.Alt)
	for i := range alternatives {
		b.produce(b.sequence(&alternatives[i])...)
	}
}

// parts returns the kids of an expression that has a kind. Any other one is its only part.
func parts(e *api.Expr, kind int) []api.Expr {
	if e.Kind == kind {
		return e.Kids
	}
	return []api.Expr{*e}
}
