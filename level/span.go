package level

import "octant/api"

// isSpan reports whether a span is one from low to high.
func isSpan(s api.Span, low, high int) bool {
	return low <= s.Low && s.Low <= s.High && s.High <= high
}

// noSpan stands for a span that nothing is in.
func noSpan() api.Span { return api.Span{Low: 1, High: 0} }

// common returns what is in both spans.
func common(a, b api.Span) api.Span {
	both := api.Span{Low: max(a.Low, b.Low), High: min(a.High, b.High)}
	if both.Low > both.High {
		return noSpan()
	}
	return both
}

// around returns the least span that both spans are in.
func around(a, b api.Span) api.Span {
	if a == noSpan() {
		return b
	}
	return api.Span{Low: min(a.Low, b.Low), High: max(a.High, b.High)}
}

// width returns how wide a span is.
func width(s api.Span) int { return s.High - s.Low }
