package clock

import (
	"cmp"
	"slices"

	"octant/api"
)

// isTrial reports whether clocks are a trial.
func isTrial(l []api.ClockEntry) bool {
	if !within(len(l), 1, api.ClockTrials) {
		return false
	}
	names := map[string]bool{}
	for _, x := range l {
		if !isName(x.Name) || names[x.Name] {
			return false
		}
		names[x.Name] = true
		if len(x.Weeks) != len(l[0].Weeks) || !areWeeks(x.Weeks) {
			return false
		}
	}
	return true
}

// areWeeks reports whether numbers are the weeks of a clock.
func areWeeks(l []int) bool {
	return within(len(l), 2, api.ClockWeeks) && allWithin(l, -api.ClockRate, api.ClockRate)
}

// isName reports whether a text is a name.
func isName(s string) bool {
	if !within(len(s), 1, api.MaxName) || !isLetter(s[0]) {
		return false
	}
	for i := range len(s) {
		if !isLetter(s[i]) && !isDigit(s[i]) && s[i] != '-' {
			return false
		}
	}
	return true
}

func isLetter(b byte) bool { return 'a' <= b && b <= 'z' }
func isDigit(b byte) bool  { return '0' <= b && b <= '9' }

// tried is a clock of a trial, with its index and its trial number.
type tried struct {
	api.ClockEntry
	index, number int
}

func newTried(x api.ClockEntry, index int) tried {
	var changes []int
	for k := range len(x.Weeks) - 1 {
		changes = append(changes, x.Weeks[k+1]-x.Weeks[k])
	}
	weeks := extent(itself, x.Weeks[0], x.Weeks[1:]...)
	most := extent(size, changes[0], changes[1:]...).High
	return tried{x, index, weeks.High - weeks.Low + 2*most}
}

func itself(x int) int { return x }

// size returns a number without its sign.
func size(x int) int { return max(x, -x) }

// compare returns less than 0 if a clock ranks before another one, and more than 0 if behind it.
func (t tried) compare(other tried) int {
	return cmp.Or(cmp.Compare(t.number, other.number), cmp.Compare(t.Name, other.Name))
}

// ranks returns the indices of the clocks of a trial by their ranks, and the trial number of each one.
func ranks(l []api.ClockEntry) (order, numbers []int) {
	var list []tried
	for i, x := range l {
		list = append(list, newTried(x, i))
		numbers = append(numbers, list[i].number)
	}
	slices.SortFunc(list, tried.compare)
	for _, t := range list {
		order = append(order, t.index)
	}
	return order, numbers
}
