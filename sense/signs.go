package sense

import "reglet/api"

// none is the length of what does not stand at the beginning of a text, and the number with which an empty text begins.
const none = -1

// signsLength returns how long the beginning of a text is that an expression without kids derives. There is one such length at most.
func signsLength(e *api.Expr, text string, utf bool) int {
	switch e.Kind {
	case api.Fold:
		return foldLength(e.Text, text)
	case api.Nums:
		return numsLength(e.N, text, utf)
	case api.Span:
		return spanLength(e.N, text, utf)
	}
	return none
}

func foldLength(folded, text string) int {
	if len(folded) > len(text) {
		return none
	}
	for i := range len(folded) {
		if small(folded[i]) != small(text[i]) {
			return none
		}
	}
	return len(folded)
}

func numsLength(numbers []int, text string, utf bool) int {
	length := 0
	for _, n := range numbers {
		l := Bytes(n, utf)
		if len(l) == 0 || !beginsWith(text[length:], l) {
			return none
		}
		length += len(l)
	}
	return length
}

func spanLength(limits []int, text string, utf bool) int {
	n := firstNumber(text, utf)
	if len(limits) != 2 || n < limits[0] || n > limits[1] {
		return none
	}
	return numsLength([]int{n}, text, utf)
}

// firstNumber returns the only number that may be the first one of a text. With utf that is U+FFFD if the text does not begin with a scalar value, and also if it begins with U+FFFD.
func firstNumber(text string, utf bool) int {
	if !utf && text != "" {
		return int(text[0])
	}
	for _, c := range text {
		return int(c)
	}
	return none
}

func beginsWith(text string, l []int) bool {
	if len(l) > len(text) {
		return false
	}
	for i, b := range l {
		if int(text[i]) != b {
			return false
		}
	}
	return true
}

// small returns the small letter for a capital one, and any other byte as it is.
func small(c byte) byte {
	if 'A' <= c && c <= 'Z' {
		return c - 'A' + 'a'
	}
	return c
}
