package shop

import (
	"cmp"
	"iter"
	"slices"

	"octant/api"
)

// made tells which pieces were made.
type made [api.ShopPieces]bool

// with returns what was made behind a day on which more is.
func (m made) with(numbers []int) made {
	for _, number := range numbers {
		m[number] = true
	}
	return m
}

// all returns what was made once the order is finished.
func (l pieces) all() made {
	var m made
	for number := range l {
		m[number] = true
	}
	return m
}

// canMake reports whether a piece can be made on a day before which others were made.
func (l pieces) canMake(number int, before made) bool {
	for _, p := range l {
		if p.Into == number && !before[p.number] {
			return false
		}
	}
	return !before[number]
}

// ready produces the pieces that can be made on a day before which others were made.
func (l pieces) ready(before made) iter.Seq[int] {
	return func(yield func(int) bool) {
		for number := range l {
			if l.canMake(number, before) && !yield(number) {
				return
			}
		}
	}
}

// compare returns less than 0 if a piece is to be made rather than another one: higher levels come first, as more days must follow behind them.
func (l pieces) compare(a, b int) int {
	return cmp.Or(cmp.Compare(l[b].level, l[a].level), cmp.Compare(a, b))
}

// shortest returns a plan with as few days as any.
func (l pieces) shortest(men int) [][]int {
	var plan [][]int
	var before made
	for range l.days(men) {
		day := l.best(men, before)
		plan = append(plan, day)
		before = before.with(day)
	}
	return plan
}

// best returns the pieces that are to be made on a day before which others were made.
func (l pieces) best(men int, before made) []int {
	var day []int
	for number := range l.ready(before) {
		day = append(day, number)
	}
	slices.SortFunc(day, l.compare)
	day = day[:min(men, len(day))]
	slices.Sort(day)
	return day
}

// fits reports whether days are a plan for so many journeymen.
func (l pieces) fits(men int, plan [][]int) bool {
	var before, after made
	for _, day := range plan {
		if len(day) > men || !l.canMakeAll(day, after) {
			return false
		}
		before, after = after, after.with(day)
	}
	// on the last day some piece must be made
	return after == l.all() && after != before
}

// canMakeAll reports whether a list is one of pieces that can be made on a day before which others were made.
func (l pieces) canMakeAll(day []int, before made) bool {
	next := 0
	for _, number := range day {
		if !within(number, next, len(l)-1) || !l.canMake(number, before) {
			return false
		}
		next = number + 1
	}
	return true
}
