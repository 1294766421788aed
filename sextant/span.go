package sextant

import "octant/api"

// within reports whether a number is from low to high.
func within(x, low, high int) bool { return low <= x && x <= high }

// isSpan reports whether a span is one from low to high.
func isSpan(s api.Span, low, high int) bool {
	return low <= s.Low && s.Low <= s.High && s.High <= high
}

// areSpans reports whether all spans are such whose numbers are at most so great, whatever their signs.
func areSpans(l []api.Span, most int) bool {
	for _, s := range l {
		if !isSpan(s, -most, most) {
			return false
		}
	}
	return true
}

// exactly returns the span of a number that is known.
func exactly(x int) api.Span { return api.Span{Low: x, High: x} }

// upTo returns the span of the numbers that are at most so great, whatever their signs.
func upTo(most int) api.Span { return api.Span{Low: -most, High: most} }

// minus returns the span of all numbers of a span with the other sign.
func minus(s api.Span) api.Span { return api.Span{Low: -s.High, High: -s.Low} }

// sum returns between what the sum of numbers lies, one of each span.
func sum(spans ...api.Span) api.Span {
	var all api.Span
	for _, s := range spans {
		all.Low += s.Low
		all.High += s.High
	}
	return all
}

// noSpan stands for a span that nothing is in.
func noSpan() api.Span { return api.Span{Low: 1, High: 0} }

// common returns what is in both spans.
func common(a, b api.Span) api.Span {
	both := api.Span{Low: max(a.Low, b.Low), High: min(a.High, b.High)}
	if both.Low > both.High {
		return noSpan()
	}
	return both
}

// around returns the least span that both spans are in.
func around(a, b api.Span) api.Span {
	if a == noSpan() {
		return b
	}
	return api.Span{Low: min(a.Low, b.Low), High: max(a.High, b.High)}
}

func width(s api.Span) int { return s.High - s.Low }

func wider(a, b api.Span) bool { return width(a) > width(b) }

// best returns the one than which none is better, of several the first one.
func best[T any](better func(a, b T) bool, first T, others ...T) T {
	for _, x := range others {
		if better(x, first) {
			first = x
		}
	}
	return first
}
