package clock

import (
	"iter"
	"slices"

	"octant/api"
)

// day is a day of a voyage, with its temperature.
type day struct{ number, temp int }

// daysWith produces a day with each temperature of a span.
func daysWith(number int, temps api.Span) iter.Seq[day] {
	return func(yield func(day) bool) {
		for temp := temps.Low; temp <= temps.High; temp++ {
			if !yield(day{number, temp}) {
				return
			}
		}
	}
}

// rate is what a clock gains each day.
type rate interface {
	on(d day) int
}

// byTemp is the temperatures of a table, with the rate at each of them.
type byTemp struct{ temps, rates []int }

func (t byTemp) on(d day) int {
	above, found := slices.BinarySearch(t.temps, d.temp)
	if found {
		return t.rates[above]
	}
	below := above - 1
	apart, behind := t.temps[above]-t.temps[below], d.temp-t.temps[below]
	return roundDown(t.rates[below]*(apart-behind)+t.rates[above]*behind, apart)
}

// byAge is by how much a rate changes each day.
type byAge int

func (a byAge) on(d day) int { return int(a) * d.number }

// together is several rates as one.
type together []rate

func (t together) on(d day) int {
	sum := 0
	for _, r := range t {
		sum += r.on(d)
	}
	return sum
}
