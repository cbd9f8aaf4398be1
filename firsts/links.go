package firsts

// link leads from a number to another one.
type link struct{ from, to int }

// links are lists of numbers: those to which each number leads.
type links struct {
	starts []int // where in all of them the list of each number starts; one more is where the last list ends
	all    []int
}

// newLinks returns the links from the numbers below a count.
func newLinks(count int, l []link) links {
	made := links{make([]int, count+1), make([]int, len(l))}
	for _, x := range l {
		made.starts[x.from]++
	}
	end := 0
	for i, length := range made.starts {
		end += length
		made.starts[i] = end
	}
	// Each list is filled from its end on, which thereby becomes its start.
	for _, x := range l {
		made.starts[x.from]--
		made.all[made.starts[x.from]] = x.to
	}
	return made
}

// of returns the numbers to which a number leads.
func (l links) of(n int) []int { return l.all[l.starts[n]:l.starts[n+1]] }
