package fix

import (
	"cmp"
	"slices"

	"octant/api"
)

// carried is a clock that is carried, in the calculation.
type carried struct{ api.FixCarried }

const (
	leastCarried = 2
	mostCarried  = 8
)

// areCarried reports whether clocks are such as are carried, and neither too few nor too many.
func areCarried(l []api.FixCarried) bool {
	if !within(len(l), leastCarried, mostCarried) {
		return false
	}
	for _, x := range l {
		if !within(x.Shows, 0, api.FixClock) || !isSpan(x.Error, -api.FixClock, api.FixClock) {
			return false
		}
	}
	return true
}

// longitudes returns those that agree with the clock.
func (c carried) longitudes(local api.Span) api.Span {
	return api.Span{Low: local.Low - c.Shows + c.Error.Low, High: local.High - c.Shows + c.Error.High}
}

// longitudes returns those that agree with at least two clocks, as the fewest spans.
func longitudes(local api.Span, l []api.FixCarried) []api.Span {
	var list []api.Span
	for i := range l {
		for k := range i {
			both := common(carried{l[i]}.longitudes(local), carried{l[k]}.longitudes(local))
			if !isEmpty(both) {
				list = append(list, both)
			}
		}
	}
	return joined(list)
}

// joined returns the fewest spans in which lies what lies in some, increasing.
func joined(l []api.Span) []api.Span {
	slices.SortFunc(l, func(a, b api.Span) int { return cmp.Compare(a.Low, b.Low) })
	var list []api.Span
	for _, s := range l {
		last := len(list) - 1
		// numbers are whole: nothing lies between spans that adjoin
		if last >= 0 && s.Low <= list[last].High+1 {
			list[last].High = max(list[last].High, s.High)
		} else {
			list = append(list, s)
		}
	}
	return list
}
