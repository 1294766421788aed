package wreck

import "octant/api"

// within reports whether a number is from low to high.
func within(x, low, high int) bool { return low <= x && x <= high }

// isNumber reports whether a number is one of an instrument.
func isNumber(x int) bool { return within(x, 1, api.WreckNumber) }

func isDay(x int) bool { return within(x, 0, api.MaxDay) }

// isName reports whether a text is a name.
func isName(s string) bool {
	if !within(len(s), 1, api.MaxName) || !isLetter(s[0]) {
		return false
	}
	for i := range len(s) {
		if !isLetter(s[i]) && !isDigit(s[i]) && s[i] != '-' {
			return false
		}
	}
	return true
}

func isLetter(b byte) bool { return 'a' <= b && b <= 'z' }
func isDigit(b byte) bool  { return '0' <= b && b <= '9' }

// first returns the first of several things for which something holds, and whether there is one.
func first[T any](holds func(T) bool, several ...T) (x T, found bool) {
	for _, x := range several {
		if holds(x) {
			return x, true
		}
	}
	return x, false
}

// firstLeast returns the first of several things with the least number.
func firstLeast[T any](of func(T) int, x T, others ...T) T {
	least := of(x)
	for _, other := range others {
		if number := of(other); number < least {
			x, least = other, number
		}
	}
	return x
}
