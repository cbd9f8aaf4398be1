package least

// queue lets numbers wait, each of them once at a time.
type queue struct {
	line  []int
	waits []bool // by number
}

// newQueue returns a queue for so many numbers, from 0 on.
func newQueue(numbers int) queue { return queue{waits: make([]bool, numbers)} }

// put lets a number wait behind all others, unless it waits already.
func (q *queue) put(n int) {
	if !q.waits[n] {
		q.waits[n] = true
		q.line = append(q.line, n)
	}
}

// take returns the number that has waited longest, and waits no more. It returns false if none waits.
func (q *queue) take() (int, bool) {
	if len(q.line) == 0 {
		return 0, false
	}
	n := q.line[0]
	q.line, q.waits[n] = q.line[1:], false
	return n, true
}
