package sense

// goal is a question: where does a node end that begins at a position of the text?
type goal struct{ node, from int }

// fact is a step towards the answer of a goal: so many kids of a node have come, and end at a position. Where the node ends, the goal does.
type fact struct {
	goal           goal
	node, done, at int
}

// positions is a set of positions of the text.
type positions map[int]struct{}

// search looks for all that follows from what is known, until nothing is new.
type search struct {
	nodes   []node
	text    string
	utf     bool
	known   map[fact]struct{}
	fresh   []fact // those from which nothing has followed yet
	ends    map[goal]positions
	waiting map[goal][]fact // those that go on wherever a goal ends
}

// endsOf returns where a goal ends.
func (s *search) endsOf(g goal) positions {
	s.ask(g)
	for len(s.fresh) > 0 {
		last := len(s.fresh) - 1
		f := s.fresh[last]
		s.fresh = s.fresh[:last]
		s.follow(f)
	}
	return s.ends[g]
}

// ask begins with a goal, unless that has been done.
func (s *search) ask(g goal) {
	if _, ok := s.ends[g]; !ok {
		s.ends[g] = positions{}
		s.add(fact{goal: g, node: g.node, at: g.from})
	}
}

func (s *search) add(f fact) {
	if _, ok := s.known[f]; !ok {
		s.known[f] = struct{}{}
		s.fresh = append(s.fresh, f)
	}
}

// follow adds what follows from a fact.
func (s *search) follow(f fact) {
	n := s.nodes[f.node]
	if n.isWhole(f.done) {
		s.reach(f.goal, f.at)
	}
	for _, kid := range n.next(f.done) {
		switch {
		case s.nodes[kid].isSigns():
			if length := signsLength(s.nodes[kid].expr, s.text[f.at:], s.utf); length >= 0 {
				s.goOn(f, f.at+length)
			}
		case n.isLast(f.done):
			// Where the kid ends, the goal does. Without a goal of its own, a rule that comes back to itself at its end doesn't hand each end through all the times that it came back.
			s.add(fact{goal: f.goal, node: kid, at: f.at})
		default:
			s.await(f, goal{node: kid, from: f.at})
		}
	}
}

// await adds what follows from a fact where a goal ends, now and later.
func (s *search) await(f fact, g goal) {
	s.waiting[g] = append(s.waiting[g], f)
	s.ask(g)
	for end := range s.ends[g] {
		s.goOn(f, end)
	}
}

// reach notes that a goal ends at a position.
func (s *search) reach(g goal, end int) {
	if _, ok := s.ends[g][end]; ok {
		return
	}
	s.ends[g][end] = struct{}{}
	for _, f := range s.waiting[g] {
		s.goOn(f, end)
	}
}

// goOn adds what follows from a fact when one more kid has come, which ends at a position.
func (s *search) goOn(f fact, end int) {
	f.done = s.nodes[f.node].counted(f.done, end == f.at)
	f.at = end
	s.add(f)
}
