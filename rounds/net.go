package rounds

import (
	"slices"

	"octant/api"
)

// net is a net in the calculation.
type net struct{ api.RoundsNet }

func (n net) valid() bool {
	return within(n.Triangles, 1, api.RoundsTriangles) &&
		within(len(n.Closed), 1, api.RoundsStations) &&
		len(n.Angles) == 3*n.Triangles && n.haveAngles() && n.haveCorners()
}

// haveAngles reports whether all angles are such of the net's triangles and stations.
func (n net) haveAngles() bool {
	for _, a := range n.Angles {
		if !within(a.Triangle, 0, n.Triangles-1) || !within(a.Station, 0, len(n.Closed)-1) {
			return false
		}
		if !isSpan(a.Angle, 0, api.RoundsTriangle) {
			return false
		}
	}
	return true
}

// haveCorners reports whether each triangle has three angles, at different stations.
func (n net) haveCorners() bool {
	var seen []api.RoundsAngle
	var count [api.RoundsTriangles]int
	for _, a := range n.Angles {
		// two angles of a triangle at one station are wrong, whatever their spans are
		a.Angle = api.Span{}
		if slices.Contains(seen, a) {
			return false
		}
		seen = append(seen, a)
		count[a.Triangle]++
	}
	for t := range n.Triangles {
		if count[t] != 3 {
			return false
		}
	}
	return true
}

// with returns the net with another span of an angle.
func (n net) with(number int, span api.Span) net {
	changed := n.Angles[number]
	changed.Angle = span
	// with no room behind them, what lies in front is copied, so that the net itself is not changed
	list := append(n.Angles[:number:number], changed)
	n.Angles = append(list, n.Angles[number+1:]...)
	return n
}

// closes reports whether angles close, a number for each one of the net.
func (n net) closes(angles []int) bool {
	for i, a := range n.Angles {
		if !within(angles[i], a.Angle.Low, a.Angle.High) {
			return false
		}
	}
	return n.over(angles) == seconds{}
}

// suspects returns the angles that are suspect in a net in which none close.
func (n net) suspects() []int {
	var list []int
	for i := range n.Angles {
		if n.with(i, api.Span{Low: 0, High: api.RoundsTriangle}).settled().left() == 0 {
			list = append(list, i)
		}
	}
	return list
}
