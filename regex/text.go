package regex

import (
	"slices"
	"strconv"
	"strings"

	"reglet/api"
	"reglet/byteset"
)

// deepest is how deep write recurs: Go's stack ends at some depth, at which an expression need not.
const deepest = 10000

// part is what is left of the text of an expression that has begun: its kids from the next one on, with a text between each two, and its end.
type part struct {
	kids         []api.Re
	next         int
	between, end string
}

// Text returns the text of r. An expression that is nested in itself would have a text without an end: it has none.
func Text(r api.Re) string {
	if !hasEnd(&r) {
		return ""
	}
	var b strings.Builder
	waiting := []part{{kids: []api.Re{r}}}
	for len(waiting) > 0 {
		last := len(waiting) - 1
		left := write(&b, waiting[last], deepest)
		slices.Reverse(left)
		waiting = append(waiting[:last], left...)
	}
	return b.String()
}

// write writes a part. If something in it is too deep, it returns that, and behind it what comes after it.
func write(b *strings.Builder, p part, room int) []part {
	if room == 0 {
		return []part{p}
	}
	for p.next < len(p.kids) {
		if p.next > 0 {
			b.WriteString(p.between)
		}
		kid := begin(b, &p.kids[p.next])
		p.next++
		if left := write(b, kid, room-1); len(left) > 0 {
			return append(left, p)
		}
	}
	b.WriteString(p.end)
	return nil
}

// begin writes the text of r up to its kids, and returns the part from there on.
func begin(b *strings.Builder, r *api.Re) part {
	switch r.Kind {
	case api.None:
		b.WriteString("0")
	case api.Empty:
		b.WriteString("1")
	case api.Byte:
		writeRanges(b, byteset.Ranges(r.Set))
	case api.Star:
		return part{kids: r.Kids, end: "*"}
	case api.Cat:
		b.WriteString("(")
		return part{kids: r.Kids, end: ")"}
	default:
		b.WriteString("{")
		return part{kids: r.Kids, between: "|", end: "}"}
	}
	return part{}
}

func writeRanges(b *strings.Builder, l []api.Range) {
	b.WriteString("[")
	for i, r := range l {
		if i > 0 {
			b.WriteString(",")
		}
		b.WriteString(strconv.Itoa(r.Lo) + "-" + strconv.Itoa(r.Hi))
	}
	b.WriteString("]")
}
