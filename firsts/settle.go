package firsts

// settle is a fixed-point iteration: the step is called for each number that is open, and appends the numbers that are open because of it, until none is. What has been open longest is next, so that much has changed by then, and it is not open often.
func settle(open []int, step func(open []int, n int) []int) {
	for len(open) > 0 {
		open = step(open[1:], open[0])
	}
}
