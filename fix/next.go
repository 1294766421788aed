package fix

import (
	"maps"
	"slices"

	"octant/api"
)

// areAsks reports whether sights are such as can be taken, and neither none nor too many.
func areAsks(l []api.FixNext) bool {
	if !within(len(l), 1, api.FixAsks) {
		return false
	}
	for _, x := range l {
		if !isLine(x.A, x.B) || !within(x.Wrong, 0, api.FixWrong) {
			return false
		}
	}
	return true
}

// values returns what a line has at each of the points.
func (s sea) values(a, b int) map[api.FixPoint]int {
	at := map[api.FixPoint]int{}
	for p := range s.points() {
		at[p] = value(a, b, p)
	}
	return at
}

// worst returns the greatest number of the points that a sight leaves with any value; there is at least one point.
func (s sea) worst(x api.FixNext) int {
	sorted := slices.Sorted(maps.Values(s.values(x.A, x.B)))
	var counts []int
	end := 0
	// the points that a value leaves are no more than those that the value leaves which is Wrong above the least one of them
	for first, least := range sorted {
		for end < len(sorted) && sorted[end] <= least+2*x.Wrong {
			end++
		}
		counts = append(counts, end-first)
	}
	return greatest(counts[0], counts[1:]...)
}
