package fix

import (
	"cmp"

	"octant/api"
)

// within reports whether a number is from low to high.
func within(x, low, high int) bool { return low <= x && x <= high }

// isIn reports whether a number lies in a span.
func isIn(x int, s api.Span) bool { return within(x, s.Low, s.High) }

// isSpan reports whether a span is one from low to high.
func isSpan(s api.Span, low, high int) bool {
	return low <= s.Low && s.Low <= s.High && s.High <= high
}

// areSpans reports whether all spans are such from low to high.
func areSpans(l []api.Span, low, high int) bool {
	for _, s := range l {
		if !isSpan(s, low, high) {
			return false
		}
	}
	return true
}

// isEmpty reports whether nothing lies in what is left of a span.
func isEmpty(s api.Span) bool { return s.Low > s.High }

// common returns what lies in both spans.
func common(a, b api.Span) api.Span {
	return api.Span{Low: max(a.Low, b.Low), High: min(a.High, b.High)}
}

// opposite returns what the numbers of a span are with the other sign.
func opposite(s api.Span) api.Span { return api.Span{Low: -s.High, High: -s.Low} }

// greatest returns the greatest one of several numbers.
func greatest[T cmp.Ordered](first T, others ...T) T {
	for _, x := range others {
		first = max(first, x)
	}
	return first
}

// firstLeast returns the place of the first thing with the least number, and this number; there is at least one thing.
func firstLeast[T any](of func(T) int, list []T) (which, least int) {
	least = of(list[0])
	for i := 1; i < len(list); i++ {
		if x := of(list[i]); x < least {
			which, least = i, x
		}
	}
	return which, least
}
