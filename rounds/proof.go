package rounds

import (
	"slices"

	"octant/api"
)

// haveProof reports whether a proof is one for the net.
func (n net) haveProof(p api.RoundsProof) bool {
	if !isRising(p.Triangles, n.Triangles) || !isRising(p.Stations, len(n.Closed)) {
		return false
	}
	for _, s := range p.Stations {
		if !n.Closed[s] {
			return false
		}
	}
	return true
}

// isRising reports whether a list is strictly increasing, with numbers from 0 on, below a bound.
func isRising(l []int, bound int) bool {
	for i, x := range l {
		if !within(x, 0, bound-1) || i > 0 && x <= l[i-1] {
			return false
		}
	}
	return true
}

// holds reports whether a proof for the net holds.
func (n net) holds(p api.RoundsProof) bool {
	var outside, inside []api.Span
	for _, a := range n.Angles {
		from, to := slices.Contains(p.Triangles, a.Triangle), slices.Contains(p.Stations, a.Station)
		if from && !to {
			outside = append(outside, a.Angle)
		}
		if to && !from {
			inside = append(inside, a.Angle)
		}
	}
	must := api.RoundsTriangle*len(p.Triangles) - api.RoundsCircle*len(p.Stations)
	if p.Small {
		return sum(upper().of, outside...)-sum(lower().of, inside...) < must
	}
	return sum(lower().of, outside...)-sum(upper().of, inside...) > must
}

// proof returns one that holds, if some seconds are left over.
func (g giving) proof() api.RoundsProof {
	// from where these get nothing leads on: angles that lead out have all that they can, angles that lead in have their least
	p := api.RoundsProof{Small: !g.gets[elsewhere]}
	for t := range g.Triangles {
		if g.gets[t] == p.Small {
			p.Triangles = append(p.Triangles, t)
		}
	}
	for s, closed := range g.Closed {
		if closed && g.gets[firstStation+s] == p.Small {
			p.Stations = append(p.Stations, s)
		}
	}
	return p
}
