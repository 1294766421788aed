package glass

import (
	"cmp"

	"octant/api"
)

// span is a span in the calculation.
type span api.Span

// has reports whether a number lies in the span.
func (s span) has(x int) bool { return s.Low <= x && x <= s.High }

// isSpan reports whether a span is one from low to high.
func isSpan(s api.Span, low, high int) bool {
	return s.Low <= s.High && all(span{low, high}.has, s.Low, s.High)
}

// around returns the least span that all numbers lie in.
func around(first int, others ...int) api.Span {
	return api.Span{Low: least(first, others...), High: greatest(first, others...)}
}

// all reports whether something is so of all numbers.
func all(so func(x int) bool, numbers ...int) bool {
	for _, x := range numbers {
		if !so(x) {
			return false
		}
	}
	return true
}

// least returns the least number.
func least[T cmp.Ordered](first T, others ...T) T {
	return best(func(a, b T) bool { return a < b }, first, others...)
}

// greatest returns the greatest number.
func greatest[T cmp.Ordered](first T, others ...T) T {
	return best(func(a, b T) bool { return a > b }, first, others...)
}

// best returns the one than which none is better, of several the first one.
func best[T any](better func(a, b T) bool, first T, others ...T) T {
	for _, x := range others {
		if better(x, first) {
			first = x
		}
	}
	return first
}
