package fix

import (
	"cmp"
	"slices"

	"octant/api"
)

const leastRows = 2

// isTable reports whether rows are a table of the moon.
func isTable(l []api.FixMoon) bool {
	if !within(len(l), leastRows, api.FixRows) {
		return false
	}
	for i, x := range l {
		if !within(x.At, 0, api.FixClock) || !within(x.Distance, 0, api.FixMoons) {
			return false
		}
		if i > 0 && (x.At <= l[i-1].At || x.Distance == l[i-1].Distance || isFalling(l[i-1:]) != isFalling(l)) {
			return false
		}
	}
	return true
}

// isFalling reports whether the distance falls from the first row to the second one.
func isFalling(l []api.FixMoon) bool { return l[1].Distance < l[0].Distance }

// rising is a table whose distances rise.
type rising []api.FixMoon

// turned returns the table whose distances are those of a falling one with the other sign.
func turned(l []api.FixMoon) rising {
	var t rising
	for _, x := range l {
		t = append(t, api.FixMoon{At: x.At, Distance: -x.Distance})
	}
	return t
}

// timesOf returns between what all whole times lie at which the distance is in a span, or an empty span if there are none.
func timesOf(l []api.FixMoon, seen api.Span) api.Span {
	if isFalling(l) {
		return turned(l).times(opposite(seen))
	}
	return rising(l).times(seen)
}

// times returns between what all whole times lie at which the distance is in a span, or an empty span if there are none.
func (r rising) times(seen api.Span) api.Span {
	told := common(seen, api.Span{Low: r[0].Distance, High: r[len(r)-1].Distance})
	if isEmpty(told) {
		return told
	}
	return api.Span{Low: r.around(told.Low).High, High: r.around(told.High).Low}
}

// around returns the last whole time at which the distance is not above one that the table comes to, and the first one at which it is not below it.
func (r rising) around(distance int) api.Span {
	above, found := slices.BinarySearchFunc(r, distance, func(x api.FixMoon, d int) int { return cmp.Compare(x.Distance, d) })
	if found {
		return api.Span{Low: r[above].At, High: r[above].At}
	}
	from, to := r[above-1], r[above]
	part, rise := (distance-from.Distance)*(to.At-from.At), to.Distance-from.Distance
	last := from.At + part/rise // both are above 0
	if part%rise == 0 {
		return api.Span{Low: last, High: last}
	}
	return api.Span{Low: last, High: last + 1}
}
