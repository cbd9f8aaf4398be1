package least

import (
	"strconv"

	"reglet/api"
)

// unknown is the number of a part to which no string is known to lead.
const unknown = -2

// numbering makes states of the parts, in the order in which strings from state 0 on lead to them.
type numbering struct {
	queue
	whole   *whole
	parts   *parts
	numbers []int // by part
	known   int   // how many parts have a number
	rows    [][]int
	tags    []int
}

// newNumbering returns a numbering of parts, of which one leads nowhere.
func newNumbering(w *whole, p *parts) *numbering {
	n := &numbering{queue: newQueue(len(p.members)), whole: w, parts: p}
	for range p.members {
		n.numbers = append(n.numbers, unknown)
	}
	n.numbers[p.partOf[w.sink]] = nowhere
	return n
}

// run numbers all parts to which a string leads from state 0. It finds their successors by the classes as they are so far.
func (n *numbering) run() {
	n.number(0)
	for {
		part, ok := n.take()
		if !ok {
			break
		}
		// All members lead to the same parts.
		member := n.parts.members[part][0]
		row := make([]int, n.whole.classes)
		for class := range row {
			row[class] = n.number(n.whole.leads(member, class))
		}
		n.rows = append(n.rows, row)
		n.tags = append(n.tags, n.whole.tag(member))
	}
}

// number returns the number of the part in which a state is. If it has none so far, it gets the next one, and waits for its successors.
func (n *numbering) number(state int) int {
	part := n.parts.partOf[state]
	if n.numbers[part] == unknown {
		n.numbers[part] = n.known
		n.known++
		n.put(part)
	}
	return n.numbers[part]
}

// automaton returns the automaton of the parts that have a number.
func (n *numbering) automaton() api.Auto {
	a := api.Auto{Tag: n.tags}
	merged := n.merged()
	for b, class := range n.whole.Class {
		a.Class[b] = merged[class]
	}
	for _, row := range n.rows {
		a.Next = append(a.Next, shortened(row, merged))
	}
	return a
}

// merged returns a new class for each class: the same one for those by which each state has the same successor. Since the old ones are numbered in the order of the bytes, the new ones are, too.
func (n *numbering) merged() []int {
	merged := make([]int, n.whole.classes)
	classByText := map[string]int{}
	for class := range merged {
		text := n.column(class)
		first, ok := classByText[text]
		if !ok {
			first = len(classByText)
			classByText[text] = first
		}
		merged[class] = first
	}
	return merged
}

// column returns a text that tells the successors of all states by a class.
func (n *numbering) column(class int) string {
	var text []byte
	for _, row := range n.rows {
		text = strconv.AppendInt(text, int64(row[class]), 10)
		text = append(text, ' ')
	}
	return string(text)
}

// shortened returns the successors by the new classes, of which each is that of the first old one that became it.
func shortened(row, merged []int) []int {
	var short []int
	for class, first := range merged {
		if first == len(short) {
			short = append(short, row[class])
		}
	}
	return short
}
