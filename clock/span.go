package clock

import "octant/api"

// within reports whether a number is from low to high.
func within(x, low, high int) bool { return low <= x && x <= high }

// allWithin reports whether all numbers are from low to high.
func allWithin(l []int, low, high int) bool {
	for _, x := range l {
		if !within(x, low, high) {
			return false
		}
	}
	return true
}

// isSpan reports whether a span is one from low to high.
func isSpan(s api.Span, low, high int) bool {
	return low <= s.Low && s.Low <= s.High && s.High <= high
}

// areSpans reports whether all spans are such from low to high.
func areSpans(l []api.Span, low, high int) bool {
	for _, s := range l {
		if !isSpan(s, low, high) {
			return false
		}
	}
	return true
}

// extent returns between what lies what several things have.
func extent[T any](of func(T) int, first T, others ...T) api.Span {
	s := api.Span{Low: of(first), High: of(first)}
	for _, x := range others {
		s.Low, s.High = min(s.Low, of(x)), max(s.High, of(x))
	}
	return s
}

// roundDown divides a number by one above 0, and rounds down.
func roundDown(x, by int) int {
	q := x / by
	if x%by < 0 {
		q--
	}
	return q
}
