package screw

import "octant/api"

// length is how many places a nut is long.
type length int

// lap returns what the nut leaves of errors.
func (n length) lap(l []int) []int {
	var lapped []int
	for place := range len(l) - int(n) + 1 {
		end := place + int(n)
		lapped = append(lapped, sum(l[place:end:end]...))
	}
	return lapped[:len(lapped):len(lapped)]
}

// laps returns after how many laps errors are good, and whether they are after any.
func (n length) laps(l []int, limit int) (int, bool) {
	lap := n.lap
	for done := range api.ScrewLaps + 1 {
		if spread(l) <= limit {
			return done, true
		}
		if len(l) < int(n) { // the nut does not go on it any more
			break
		}
		l = lap(l)
		limit *= int(n) // what is lapped errs so many times as much as it truly does
	}
	return 0, false
}

// spread returns the greatest number of a list less its least one.
func spread(l []int) int { return greatest(l[0], l[1:]...) - least(l[0], l[1:]...) }

// arePlaces reports whether errors are those of a screw's places.
func arePlaces(l []int) bool {
	if !within(len(l), 1, api.ScrewPlaces) {
		return false
	}
	for _, x := range l {
		if !within(x, -api.ScrewError, api.ScrewError) {
			return false
		}
	}
	return true
}

// areSpans reports whether spans can have periods.
func areSpans(l []api.Span) bool {
	if !within(len(l), 1, api.ScrewPlaces) {
		return false
	}
	for _, x := range l {
		if x.Low > x.High || x.Low < -api.ScrewError || x.High > api.ScrewError {
			return false
		}
	}
	return true
}

// isPeriod reports whether p is a period of spans.
func isPeriod(l []api.Span, p int) bool {
	for first := range p {
		common := l[first] // what is in all spans that are any number of periods apart
		for place := first; place < len(l); place += p {
			common.Low = greatest(common.Low, l[place].Low)
			common.High = least(common.High, l[place].High)
		}
		if common.Low > common.High {
			return false
		}
	}
	return true
}

// sum returns the sum of numbers.
func sum[T ~int](list ...T) T {
	var all T
	for _, x := range list {
		all += x
	}
	return all
}

// greatest returns the greatest number.
func greatest[T ~int](first T, others ...T) T {
	return best(func(a, b T) bool { return a > b }, first, others...)
}

// least returns the least number.
func least[T ~int](first T, others ...T) T {
	return best(func(a, b T) bool { return a < b }, first, others...)
}

// best returns the one than which none is better, of several the first one.
func best[T any](better func(a, b T) bool, first T, others ...T) T {
	for _, x := range others {
		if better(x, first) {
			first = x
		}
	}
	return first
}
