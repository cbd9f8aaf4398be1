package least

import "strconv"

// divider divides the states of an automaton, until those of each part are equivalent. The parts that wait are those by which others may have to be divided.
type divider struct {
	parts
	queue
	whole      *whole
	sources    [][][]int // by state and class: the states that lead there
	signatures [][]byte  // by state, while a list of states is divided
}

// newDivider returns a divider with a part for each tag. What they are divided from, the part of all states, never had to wait: all states lead there by all classes.
func newDivider(w *whole) *divider {
	d := &divider{
		parts:      newParts(w.states()),
		queue:      newQueue(w.states()),
		whole:      w,
		sources:    sourcesOf(w),
		signatures: make([][]byte, w.states()),
	}
	var all []int
	for s := range w.states() {
		all = append(all, s)
		d.signatures[s] = strconv.AppendInt(nil, int64(w.tag(s)), 10)
	}
	d.divide(all)
	return d
}

func sourcesOf(w *whole) [][][]int {
	sources := make([][][]int, w.states())
	for s := range sources {
		sources[s] = make([][]int, w.classes)
	}
	for s := range sources {
		for class := range w.classes {
			to := w.leads(s, class)
			sources[to][class] = append(sources[to][class], s)
		}
	}
	return sources
}

// run divides parts until no part has to be divided further.
func (d *divider) run() {
	for {
		part, ok := d.take()
		if !ok {
			break
		}
		d.divide(d.signed(part))
	}
}

// signed returns the states that lead to a part, each of them with its signature: the classes by which it does, in ascending order. There are 256 of them at most, so that each of them is a byte.
func (d *divider) signed(part int) []int {
	var leading []int
	for class := range d.whole.classes {
		for _, to := range d.members[part] {
			for _, s := range d.sources[to][class] {
				if len(d.signatures[s]) == 0 {
					leading = append(leading, s)
				}
				d.signatures[s] = append(d.signatures[s], byte(class))
			}
		}
	}
	return leading
}

// divide divides the parts by the signatures of some states. The other states have none.
func (d *divider) divide(states []int) {
	for _, group := range d.grouped(states) {
		part := d.partOf[group[0]]
		if len(group) == d.size(part) {
			continue
		}
		// If the part waits, both that it becomes have to. If it does not, one is enough: parts are divided by both together already, and so by the other one, too. It is the smaller one, so that no state waits more often than its part can be halved.
		added := d.split(group)
		if d.waits[part] || d.size(added) <= d.size(part) {
			d.put(added)
		} else {
			d.put(part)
		}
	}
}

// grouped returns some states in groups, each of those that are in one part and have one signature, and forgets their signatures.
func (d *divider) grouped(states []int) [][]int {
	var groups [][]int
	groupByText := map[string]int{}
	for _, s := range states {
		text := strconv.Itoa(d.partOf[s]) + ":" + string(d.signatures[s])
		n, ok := groupByText[text]
		if !ok {
			n = len(groups)
			groupByText[text] = n
			groups = append(groups, nil)
		}
		groups[n] = append(groups[n], s)
		d.signatures[s] = d.signatures[s][:0]
	}
	return groups
}
