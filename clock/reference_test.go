package clock_test

import (
	"slices"

	"octant/api"
	"octant/clock"
)

// The functions of this file say slowly what the document says, to check the package against.

// dice is a row of numbers that look as if by chance, the same ones each time.
type dice uint64

// from returns a number from low to high.
func (d *dice) from(low, high int) int {
	*d = *d*6364136223846793005 + 1442695040888963407
	return low + int(uint64(*d)>>33)%(high-low+1)
}

// in returns a number that lies in a span, often an end of it.
func (d *dice) in(s api.Span) int {
	switch d.from(0, 3) {
	case 0:
		return s.Low
	case 1:
		return s.High
	}
	return d.from(s.Low, s.High)
}

// span returns a span from low to high that is at most so wide.
func (d *dice) span(low, high, wide int) api.Span {
	x := d.from(low, high)
	return to(x, d.from(x, min(x+wide, high)))
}

// narrower returns a span that lies in another one.
func (d *dice) narrower(s api.Span) api.Span {
	x := d.from(s.Low, s.High)
	return to(x, d.from(x, s.High))
}

// order returns the numbers below a bound in some order.
func (d *dice) order(bound int) []int {
	var list []int
	for i := range bound {
		list = slices.Insert(list, d.from(0, i), i)
	}
	return list
}

// temps returns so many temperatures of a table, from 0 to most.
func (d *dice) temps(count, most int) []int {
	list := d.order(most + 1)[:count]
	slices.Sort(list)
	return list
}

// small returns a valid clock with few truths.
func (d *dice) small() api.Clock {
	c := api.Clock{Temps: d.temps(d.from(2, 3), 9), Age: d.span(-5, 5, 1), Error: d.span(-20, 20, 1)}
	for range c.Temps {
		c.Rates = append(c.Rates, d.span(-30, 30, 2))
	}
	return c
}

// large returns a valid clock of any size.
func (d *dice) large() api.Clock {
	c := api.Clock{Temps: d.temps(d.from(2, api.ClockTemps), api.ClockTemp), Age: d.span(-api.ClockAge, api.ClockAge, 500), Error: d.span(-10000000, 10000000, 100000)}
	for range c.Temps {
		c.Rates = append(c.Rates, d.span(-api.ClockRate, api.ClockRate, 20000))
	}
	return c
}

// voyage returns so many days for a clock, whose temperatures differ by so many degrees at most.
func (d *dice) voyage(c api.Clock, count, wide int) []api.Span {
	var days []api.Span
	for range count {
		days = append(days, d.span(c.Temps[0], c.Temps[len(c.Temps)-1], wide))
	}
	return days
}

// picks returns a number in each span.
func (d *dice) picks(l []api.Span) []int {
	var list []int
	for _, s := range l {
		list = append(list, d.in(s))
	}
	return list
}

// truth returns a truth of a clock and a voyage.
func (d *dice) truth(c api.Clock, days []api.Span) api.ClockTruth {
	return api.ClockTruth{Rates: d.picks(c.Rates), Age: d.in(c.Age), Error: d.in(c.Error), Temps: d.picks(days)}
}

// floor returns the greatest whole number that is not greater than x, divided by w.
func floor(x, w int) int {
	q := x/w - 1
	for (q+1)*w <= x {
		q++
	}
	return q
}

// slowRate returns the rate at a temperature, with a rate for each one of a table.
func slowRate(temps, rates []int, temp int) int {
	for i, x := range temps {
		if x == temp {
			return rates[i]
		}
		if x > temp {
			w, d := x-temps[i-1], temp-temps[i-1]
			return floor(rates[i-1]*(w-d)+rates[i]*d, w)
		}
	}
	panic("too warm")
}

// slowErrors returns the error behind each day, in a truth.
func slowErrors(c api.Clock, t api.ClockTruth) []int {
	var list []int
	for k := range t.Temps {
		x := t.Error
		for j := range k + 1 {
			x += slowRate(c.Temps, t.Rates, t.Temps[j]) + t.Age*j
		}
		list = append(list, x)
	}
	return list
}

// forAll calls a function with each list of numbers that lie in spans.
func forAll(spans []api.Span, do func(l []int)) {
	list := make([]int, len(spans))
	var set func(at int)
	set = func(at int) {
		if at == len(spans) {
			do(list)
			return
		}
		for x := spans[at].Low; x <= spans[at].High; x++ {
			list[at] = x
			set(at + 1)
		}
	}
	set(0)
}

// slowCone returns between what the error behind each day lies, by all truths.
func slowCone(c api.Clock, days []api.Span) []api.Span {
	var cone []api.Span
	all := slices.Concat([]api.Span{c.Age, c.Error}, c.Rates, days)
	forAll(all, func(l []int) {
		errors := slowErrors(c, api.ClockTruth{Age: l[0], Error: l[1], Rates: l[2 : 2+len(c.Rates)], Temps: l[2+len(c.Rates):]})
		for k, x := range errors {
			if len(cone) <= k {
				cone = append(cone, to(x, x))
			}
			cone[k] = to(min(cone[k].Low, x), max(cone[k].High, x))
		}
	})
	return cone
}

// slowNumber returns a trial number, by all pairs of weeks.
func slowNumber(weeks []int) int {
	apart, most := 0, 0
	for i, x := range weeks {
		for k, y := range weeks {
			apart = max(apart, x-y)
			if k == i+1 || i == k+1 {
				most = max(most, x-y)
			}
		}
	}
	return apart + 2*most
}

// slowRank returns the ranks of clocks, by how many come before each one.
func slowRank(l []api.ClockEntry) (order, numbers []int) {
	order = make([]int, len(l))
	for i, x := range l {
		numbers = append(numbers, slowNumber(x.Weeks))
		before := 0
		for _, y := range l {
			n := slowNumber(y.Weeks)
			if n < numbers[i] || n == numbers[i] && y.Name < x.Name {
				before++
			}
		}
		order[before] = i
	}
	return order, numbers
}

// ahead is by how much the first clock truly is ahead of the second one, and this one of the third.
type ahead struct{ first, second int }

// onDay returns all that the clocks can be ahead on a day.
func onDay(w api.ClockWatching, day int) []ahead {
	var list []ahead
	for x := w.First[day] - w.Wrong; x <= w.First[day]+w.Wrong; x++ {
		for y := w.Second[day] - w.Wrong; y <= w.Second[day]+w.Wrong; y++ {
			list = append(list, ahead{x, y})
		}
	}
	return list
}

// canGo reports whether the clocks can go on from day to day so, with a set of jumpers: whether there is a gain of the clock 1 with which all gains are within their spans.
func canGo(w api.ClockWatching, jumpers int, before, now ahead) bool {
	gains := to(-10000000, 10000000)
	for k, s := range w.Rates {
		if jumpers>>k&1 != 0 {
			continue
		}
		switch k {
		case 0:
			s = to(s.Low-(now.first-before.first), s.High-(now.first-before.first))
		case 2:
			s = to(s.Low+(now.second-before.second), s.High+(now.second-before.second))
		}
		gains = to(max(gains.Low, s.Low), min(gains.High, s.High))
	}
	return gains.Low <= gains.High
}

// slowCanBe reports whether a watch can be with a set of jumpers, by all that the clocks can be ahead each day.
func slowCanBe(w api.ClockWatching, jumpers int) bool {
	can := onDay(w, 0)
	for day := 1; day < len(w.First); day++ {
		var next []ahead
		for _, now := range onDay(w, day) {
			if slices.ContainsFunc(can, func(before ahead) bool { return canGo(w, jumpers, before, now) }) {
				next = append(next, now)
			}
		}
		can = next
	}
	return len(can) > 0
}

// slowJumped returns the sets of the fewest jumpers with which a watch can be.
func slowJumped(w api.ClockWatching) []int {
	for _, sets := range [][]int{{0}, {1, 2, 4}, {3, 5, 6}, {7}} {
		list := slices.DeleteFunc(sets, func(set int) bool { return !slowCanBe(w, set) })
		if len(list) > 0 {
			return list
		}
	}
	return nil
}

// firstDays returns the watch of some days only.
func firstDays(w api.ClockWatching, count int) api.ClockWatching {
	w.First, w.Second = w.First[:count], w.Second[:count]
	return w
}

// slowSince returns the first day up to which a watch cannot be without jumpers, or -1.
func slowSince(w api.ClockWatching) int {
	for day := range w.First {
		if !slowCanBe(firstDays(w, day+1), 0) {
			return day
		}
	}
	return -1
}

// watched returns a watch of clocks of which some jump (bits), each on a day, by at most so much.
func (d *dice) watched(days, wrong, rate, jumpers, by int) api.ClockWatching {
	w := api.ClockWatching{Wrong: wrong}
	var errors, jumps [3]int
	for k := range errors {
		w.Rates[k] = d.span(-rate, rate, rate)
		errors[k] = d.from(-1000, 1000)
		jumps[k] = d.from(1, days-1)
	}
	for day := range days {
		for k := range errors {
			if day > 0 {
				errors[k] += d.in(w.Rates[k])
			}
			if jumpers>>k&1 != 0 && day == jumps[k] {
				errors[k] += d.from(-by, by)
			}
		}
		w.First = append(w.First, errors[0]-errors[1]+d.in(to(-wrong, wrong)))
		w.Second = append(w.Second, errors[1]-errors[2]+d.in(to(-wrong, wrong)))
	}
	return w
}

// input has all that a call can need.
type input struct {
	clock     api.Clock
	temp, day int
	days      []api.Span
	truth     api.ClockTruth
	trial     []api.ClockEntry
	watch     api.ClockWatching
}

// result has a field for each kind of result.
type result struct {
	n             int
	span          api.Span
	spans         []api.Span
	list, numbers []int
	e             api.Errno
}

// call is a call of the package, all of whose results are in one value (an empty list is nil).
type call struct {
	name string
	do   func(in input) result
}

// some returns nil for an empty list.
func some[T any](l []T) []T {
	if len(l) == 0 {
		return nil
	}
	return l
}

// clockCalls returns the calls that have a clock.
func clockCalls() []call {
	return []call{
		{"Check", func(in input) (r result) {
			r.e = clock.Check(in.clock)
			return r
		}},
		{"Rate", func(in input) (r result) {
			r.span, r.e = clock.Rate(in.clock, in.temp, in.day)
			return r
		}},
		{"Errors", func(in input) (r result) {
			r.list, r.e = clock.Errors(in.clock, in.days, in.truth)
			r.list = some(r.list)
			return r
		}},
		{"Cone", func(in input) (r result) {
			r.spans, r.e = clock.Cone(in.clock, in.days)
			r.spans = some(r.spans)
			return r
		}},
	}
}

// allCalls returns the calls of all functions.
func allCalls() []call {
	return append(clockCalls(),
		call{"Rank", func(in input) (r result) {
			r.list, r.numbers, r.e = clock.Rank(in.trial)
			r.list, r.numbers = some(r.list), some(r.numbers)
			return r
		}},
		call{"Jumped", func(in input) (r result) {
			r.list, r.e = clock.Jumped(in.watch)
			r.list = some(r.list)
			return r
		}},
		call{"Since", func(in input) (r result) {
			r.n, r.e = clock.Since(in.watch)
			return r
		}},
	)
}
