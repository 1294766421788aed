package clock

import (
	"math/bits"

	"octant/api"
)

const (
	clocks     = 3                       // that are compared
	mostAhead  = 1000000000              // the most that a clock is ahead of another one
	mostErrors = clocks * api.ClockWatch // errors of all clocks on all days
)

// watch is a watch in the calculation.
type watch struct{ api.ClockWatching }

func (w watch) valid() bool {
	return within(len(w.First), 2, api.ClockWatch) && len(w.Second) == len(w.First) &&
		allWithin(w.First, -mostAhead, mostAhead) && allWithin(w.Second, -mostAhead, mostAhead) &&
		within(w.Wrong, 0, api.ClockWrong) &&
		areSpans(w.Rates[:], -api.ClockRate, api.ClockRate)
}

// moment is a clock on a day.
type moment struct{ clock, day int }

// places returns the place in bounds of each clock's error on each day.
func (w watch) places() map[moment]int {
	at := map[moment]int{}
	for day := range len(w.First) {
		for clock := range clocks {
			at[moment{clock, day}] = clocks*day + clock
		}
	}
	return at
}

// difference is between what lies the error at a place, less that at another one.
type difference struct {
	at, other int
	span      api.Span
}

// differences returns all that the errors must keep to, with a set of jumpers.
func (w watch) differences(jumpers int) []difference {
	at := w.places()
	var list []difference
	for day := range len(w.First) {
		list = append(list,
			difference{at[moment{0, day}], at[moment{1, day}], w.compared(w.First[day])},
			difference{at[moment{1, day}], at[moment{2, day}], w.compared(w.Second[day])},
		)
	}
	for clock, rates := range w.Rates {
		if jumpers>>clock&1 != 0 {
			continue
		}
		for before := range len(w.First) - 1 {
			list = append(list, difference{at[moment{clock, before + 1}], at[moment{clock, before}], rates})
		}
	}
	return list
}

// compared returns between what lies by how much a clock is ahead of another one, as a comparison found it.
func (w watch) compared(ahead int) api.Span {
	return api.Span{Low: ahead - w.Wrong, High: ahead + w.Wrong}
}

// bounds is what each error is at most, if none is above 0. (An error that the watch does not have stays at 0.)
type bounds [mostErrors]int

// shorten lowers the bounds of two errors as far as their difference tells.
func (b *bounds) shorten(d difference) {
	b[d.at] = min(b[d.at], b[d.other]+d.span.High)
	b[d.other] = min(b[d.other], b[d.at]-d.span.Low)
}

// canBe reports whether the watch can be, with a set of jumpers.
func (w watch) canBe(jumpers int) bool {
	var b bounds // only differences are told: if some errors can be, so can those that are all less by the same number
	list := w.differences(jumpers)
	same := false
	// If some errors can be, what bounds an error comes to it over each other error at most once: the last of so many rounds changes nothing. And bounds that do not change are errors that can be.
rounds:
	for range mostErrors {
		before := b
		for _, d := range list {
			b.shorten(d)
		}
		if same = (b == before); same {
			break rounds
		}
	}
	return same
}

// jumped returns the sets of the fewest clocks with which as jumpers the watch can be, increasing.
func (w watch) jumped() []int {
	try := func(count int) []int {
		var list []int
		for set := range 1 << clocks {
			if bits.OnesCount(uint(set)) == count && w.canBe(set) {
				list = append(list, set)
			}
		}
		return list
	}
	var list []int
	for count := range clocks { // if two jump, the third one can do what its rates tell, and they the rest
		if list = try(count); len(list) > 0 {
			break
		}
	}
	return list
}

// until returns the watch of the days up to one, including it.
func (w watch) until(day int) watch {
	count := day + 1
	w.First, w.Second = w.First[:count:count], w.Second[:count:count]
	return w
}

// since returns the first day up to which the watch cannot be without jumpers, and whether there is one.
func (w watch) since() (day int, found bool) {
	for day := range len(w.First) {
		if !w.until(day).canBe(0) {
			return day, true
		}
	}
	return 0, false
}
