package clock

import "octant/api"

// mostError is the greatest error that a clock has at first.
const mostError = 10000000

// clock is a clock in the calculation.
type clock struct{ api.Clock }

func (c clock) valid() bool {
	return within(len(c.Temps), 2, api.ClockTemps) && c.isRising() &&
		len(c.Rates) == len(c.Temps) && areSpans(c.Rates, -api.ClockRate, api.ClockRate) &&
		isSpan(c.Age, -api.ClockAge, api.ClockAge) &&
		isSpan(c.Error, -mostError, mostError)
}

// isRising reports whether the temperatures of the table are such, and strictly increasing.
func (c clock) isRising() bool {
	least := 0
	for _, temp := range c.Temps {
		if !within(temp, least, api.ClockTemp) {
			return false
		}
		least = temp + 1
	}
	return true
}

func (c clock) coldest() int { return c.Temps[0] }
func (c clock) warmest() int { return c.Temps[len(c.Temps)-1] }

// hasVoyage reports whether days are a voyage of the clock.
func (c clock) hasVoyage(days []api.Span) bool {
	return within(len(days), 1, api.ClockDays) && areSpans(days, c.coldest(), c.warmest())
}

// hasTruth reports whether a truth is one of the clock and a voyage.
func (c clock) hasTruth(days []api.Span, t api.ClockTruth) bool {
	return areIn(t.Rates, c.Rates) && isIn(t.Age, c.Age) && isIn(t.Error, c.Error) && areIn(t.Temps, days)
}

// isIn reports whether a number lies in a span.
func isIn(x int, s api.Span) bool { return within(x, s.Low, s.High) }

// areIn reports whether there is a number for each span, which lies in it.
func areIn(l []int, spans []api.Span) bool {
	if len(l) != len(spans) {
		return false
	}
	for i, s := range spans {
		if !isIn(l[i], s) {
			return false
		}
	}
	return true
}

// with returns the clock's rate if that at each temperature of the table and the change a day are known.
func (c clock) with(rates []int, age int) rate {
	all := len(c.Temps)
	return together{byTemp{c.Temps[:all:all], rates[:all:all]}, byAge(age)}
}

// errors returns those behind each day, in a truth.
func (c clock) errors(t api.ClockTruth) []int {
	r, fast := c.with(t.Rates, t.Age), t.Error
	var list []int
	for number := range len(t.Temps) {
		fast += r.on(day{number, t.Temps[number]})
		list = append(list, fast)
	}
	return list
}

// edge is a clock of which all that is not known is at the same end of its span.
type edge struct {
	clock
	end func(s api.Span) int // the number at this end
}

func (c clock) slowest() edge { return edge{c, func(s api.Span) int { return s.Low }} }
func (c clock) fastest() edge { return edge{c, func(s api.Span) int { return s.High }} }

// rate returns the rate at this end: no rate falls as one of the table, or the change a day, grows.
func (x edge) rate() rate {
	var rates []int
	for _, s := range x.Rates {
		rates = append(rates, x.end(s))
	}
	return x.with(rates, x.end(x.Age))
}

// gains returns the farthest that the clock gains on a day.
func (x edge) gains(number int, temps api.Span) int {
	var list []day
	for d := range daysWith(number, temps) {
		list = append(list, d)
	}
	return x.end(extent(x.rate().on, list[0], list[1:]...))
}

// errors returns the farthest ones behind each day.
func (x edge) errors(days []api.Span) []int {
	fast := x.end(x.Error)
	var list []int
	// each day has its temperature for itself, so that what is farthest each day is so behind all of them together
	for number := range len(days) {
		fast += x.gains(number, days[number])
		list = append(list, fast)
	}
	return list
}

// rateAt returns between what the rate at a temperature lies, on a day.
func (c clock) rateAt(temp, number int) api.Span {
	rateOf := func(x edge) int { return x.rate().on(day{number, temp}) }
	return extent(rateOf, c.slowest(), c.fastest())
}

// cone returns between what the error behind each day lies.
func (c clock) cone(days []api.Span) []api.Span {
	slow, fast := c.slowest().errors(days), c.fastest().errors(days)
	var list []api.Span
	for number := range len(days) {
		list = append(list, api.Span{Low: slow[number], High: fast[number]})
	}
	return list
}
