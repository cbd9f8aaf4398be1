package least

// parts says into which parts states are divided.
type parts struct {
	partOf  []int   // by state
	placeOf []int   // by state: its place among the members of its part
	members [][]int // by part
}

// newParts returns one part, the part 0, of so many states.
func newParts(states int) parts {
	p := parts{partOf: make([]int, states), placeOf: make([]int, states), members: make([][]int, 1)}
	for s := range states {
		p.placeOf[s] = s
		p.members[0] = append(p.members[0], s)
	}
	return p
}

// size returns how many members a part has.
func (p *parts) size(part int) int { return len(p.members[part]) }

// split makes a new part of some members of a part, and returns its number.
func (p *parts) split(states []int) int {
	part := len(p.members)
	p.members = append(p.members, nil)
	for _, s := range states {
		p.leave(s)
		p.partOf[s], p.placeOf[s] = part, p.size(part)
		p.members[part] = append(p.members[part], s)
	}
	return part
}

// leave takes a state out of its part. The last member takes its place, so that the others need not be gone through.
func (p *parts) leave(state int) {
	part, place := p.partOf[state], p.placeOf[state]
	end := p.size(part) - 1
	last := p.members[part][end]
	p.members[part][place], p.placeOf[last] = last, place
	p.members[part] = p.members[part][:end]
}
