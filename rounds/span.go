package rounds

import "octant/api"

// within reports whether a number is from low to high.
func within(x, low, high int) bool { return low <= x && x <= high }

// isSpan reports whether a span is one from low to high.
func isSpan(s api.Span, low, high int) bool {
	return low <= s.Low && s.Low <= s.High && s.High <= high
}

// isDirection reports whether a number is a direction.
func isDirection(x int) bool { return within(x, 0, api.RoundsCircle-1) }

// noSpan stands for a span that nothing is in.
func noSpan() api.Span { return api.Span{Low: 1, High: 0} }

// common returns what is in both spans.
func common(a, b api.Span) api.Span {
	both := api.Span{Low: max(a.Low, b.Low), High: min(a.High, b.High)}
	if both.Low > both.High {
		return noSpan()
	}
	return both
}

// end is an end of a span.
type end struct {
	of      func(s api.Span) int // the number there
	inwards int                  // 1 if the span goes on above it, -1 if below
}

func lower() end {
	return end{func(s api.Span) int { return s.Low }, 1}
}

func upper() end {
	return end{func(s api.Span) int { return s.High }, -1}
}

// sum returns the sum of what several things have.
func sum[T any](of func(T) int, list ...T) int {
	all := 0
	for _, x := range list {
		all += of(x)
	}
	return all
}

// roundDown divides a number by one above 0, and rounds down.
func roundDown(x, by int) int {
	q := x / by
	if x%by < 0 {
		q--
	}
	return q
}

// roundUp divides a number by one above 0, and rounds up.
func roundUp(x, by int) int { return -roundDown(-x, by) }

// onCircle returns the direction that a number of seconds is, without whole circles.
func onCircle(x int) int {
	return x - api.RoundsCircle*roundDown(x, api.RoundsCircle)
}
