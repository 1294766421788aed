package rounds_test

import (
	"math/bits"
	"slices"

	"octant/api"
	"octant/rounds"
)

// The functions of this file say slowly what the document says, to check the package against.

// dice is a row of numbers that look as if by chance, the same ones each time.
type dice uint64

// from returns a number from low to high.
func (d *dice) from(low, high int) int {
	*d = *d*6364136223846793005 + 1442695040888963407
	return low + int(uint64(*d)>>33)%(high-low+1)
}

// in returns a number that lies in a span.
func (d *dice) in(s api.Span) int { return d.from(s.Low, s.High) }

// order returns the numbers below a bound in some order.
func (d *dice) order(bound int) []int {
	var list []int
	for i := range bound {
		list = slices.Insert(list, d.from(0, i), i)
	}
	return list
}

// direction returns what a circle shows of a number of seconds.
func direction(x int) int { return (x%1296000 + 1296000) % 1296000 }

// off returns how far apart two numbers are on a circle.
func off(a, b int) int { return min(direction(a-b), direction(b-a)) }

// agrees reports whether an angle agrees with a repetition.
func agrees(x api.RoundsRepeat, angle int) bool {
	return has(x.Rough, angle) && off(x.Times*angle, x.Last-x.First) <= 2*x.Wrong
}

// slowRepeat returns the angles that agree with a repetition, by all angles.
func slowRepeat(x api.RoundsRepeat) []api.Span {
	var list []api.Span
	before := false
	for angle := x.Rough.Low; angle <= x.Rough.High; angle++ {
		now := agrees(x, angle)
		if now && !before {
			list = append(list, to(angle, angle))
		}
		if now {
			list[len(list)-1].High = angle
		}
		before = now
	}
	return list
}

// facesAgree reports whether a direction and a lean agree with faces.
func facesAgree(x api.RoundsFaces, direction, lean int) bool {
	return has(to(-x.Lean, x.Lean), lean) &&
		off(x.Left, direction+lean) <= x.Wrong && off(x.Right, direction+648000-lean) <= x.Wrong
}

// hull is between what numbers lie.
type hull struct {
	span api.Span
	some bool
}

func (h *hull) add(x int) {
	if !h.some {
		h.span = to(x, x)
	}
	h.span, h.some = to(min(h.span.Low, x), max(h.span.High, x)), true
}

// slowFaces returns between what the directions and the leans lie that agree, by all of both.
func slowFaces(x api.RoundsFaces) (directions, leans hull) {
	for lean := -x.Lean; lean <= x.Lean; lean++ {
		for behind := -x.Lean - x.Wrong - 3; behind <= x.Lean+x.Wrong+3; behind++ {
			if facesAgree(x, x.Left+behind, lean) {
				directions.add(x.Left + behind)
				leans.add(lean)
			}
		}
	}
	return directions, leans
}

// sums returns what the angles of each triangle, and at each closed station (0 at the others), are together, less what they should be.
func sums(n api.RoundsNet, angles []int) (triangles, stations []int) {
	triangles = slices.Repeat([]int{-648000}, n.Triangles)
	stations = make([]int, len(n.Closed))
	for i, a := range n.Angles {
		triangles[a.Triangle] += angles[i]
		if n.Closed[a.Station] {
			stations[a.Station] += angles[i]
		}
	}
	for s, closed := range n.Closed {
		if closed {
			stations[s] -= 1296000
		}
	}
	return triangles, stations
}

// slowCloses reports whether angles close.
func slowCloses(n api.RoundsNet, angles []int) bool {
	for i, a := range n.Angles {
		if !has(a.Angle, angles[i]) {
			return false
		}
	}
	triangles, stations := sums(n, angles)
	return !slices.ContainsFunc(append(triangles, stations...), func(x int) bool { return x != 0 })
}

// numbersOf returns the numbers of the angles of a triangle.
func numbersOf(n api.RoundsNet, triangle int) []int {
	var list []int
	for i, a := range n.Angles {
		if a.Triangle == triangle {
			list = append(list, i)
		}
	}
	return list
}

// slowSpans returns between what each angle lies, by all angles of a net with narrow spans.
func slowSpans(n api.RoundsNet) []hull {
	spans := make([]hull, len(n.Angles))
	angles := make([]int, len(n.Angles))
	var try func(triangle int)
	try = func(triangle int) {
		if triangle == n.Triangles {
			if slowCloses(n, angles) {
				for i, x := range angles {
					spans[i].add(x)
				}
			}
			return
		}
		three := numbersOf(n, triangle)
		a, b, c := three[0], three[1], three[2]
		for x := n.Angles[a].Angle.Low; x <= n.Angles[a].Angle.High; x++ {
			for y := n.Angles[b].Angle.Low; y <= n.Angles[b].Angle.High; y++ {
				if z := 648000 - x - y; has(n.Angles[c].Angle, z) {
					angles[a], angles[b], angles[c] = x, y, z
					try(triangle + 1)
				}
			}
		}
	}
	try(0)
	return spans
}

// members returns the elements of a set.
func members(set int) []int {
	var list []int
	for k := range 16 {
		if set>>k&1 != 0 {
			list = append(list, k)
		}
	}
	return list
}

// slowHolds reports whether the proof with sets of triangles and stations holds.
func slowHolds(n api.RoundsNet, triangles, stations int, small bool) bool {
	least, most := 0, 0
	for _, a := range n.Angles {
		of, at := triangles>>a.Triangle&1, stations>>a.Station&1
		if of > at {
			least, most = least+a.Angle.Low, most+a.Angle.High
		} else if at > of {
			least, most = least-a.Angle.High, most-a.Angle.Low
		}
	}
	must := 648000*bits.OnesCount(uint(triangles)) - 1296000*bits.OnesCount(uint(stations))
	return small && most < must || !small && least > must
}

// closedSet returns the set of the closed stations.
func closedSet(n api.RoundsNet) int {
	set := 0
	for s, closed := range n.Closed {
		if closed {
			set |= 1 << s
		}
	}
	return set
}

// slowCanClose reports whether no proof at all holds.
func slowCanClose(n api.RoundsNet) bool {
	for triangles := range 1 << n.Triangles {
		for stations := range 1 << len(n.Closed) {
			if stations&^closedSet(n) != 0 {
				continue
			}
			if slowHolds(n, triangles, stations, false) || slowHolds(n, triangles, stations, true) {
				return false
			}
		}
	}
	return true
}

// withSpan returns the net with another span of an angle.
func withSpan(n api.RoundsNet, number int, s api.Span) api.RoundsNet {
	n.Angles = slices.Clone(n.Angles)
	n.Angles[number].Angle = s
	return n
}

// slowSuspects returns the angles with which some angles can close if they can be anything.
func slowSuspects(n api.RoundsNet) []int {
	var list []int
	for i := range n.Angles {
		if slowCanClose(withSpan(n, i, to(0, 648000))) {
			list = append(list, i)
		}
	}
	return list
}

// wide returns a net of so many triangles, anyhow over stations of which some may be closed, whose angles can be anything.
func (d *dice) wide(triangles, stations, closed int) api.RoundsNet {
	n := api.RoundsNet{Triangles: triangles, Closed: make([]bool, stations)}
	for _, s := range d.order(stations)[:closed] {
		n.Closed[s] = true
	}
	for t := range triangles {
		for _, s := range d.order(stations)[:3] {
			n.Angles = append(n.Angles, api.RoundsAngle{Triangle: t, Station: s, Angle: to(0, 648000)})
		}
	}
	list := make([]api.RoundsAngle, len(n.Angles))
	for i, k := range d.order(len(n.Angles)) {
		list[i] = n.Angles[k]
	}
	n.Angles = list
	return n
}

// truth returns angles of a net that close, anyhow: one after the other is known to be what it still can be; nil if none close.
func (d *dice) truth(n api.RoundsNet) []int {
	angles := make([]int, len(n.Angles))
	for _, i := range d.order(len(n.Angles)) {
		spans, e := rounds.Spans(n)
		if e != api.OK {
			return nil
		}
		angles[i] = d.in(spans[i])
		n = withSpan(n, i, to(angles[i], angles[i]))
	}
	return angles
}

// measured returns a net with angles that were measured, each within so many seconds.
func (d *dice) measured(n api.RoundsNet, angles []int, within int) api.RoundsNet {
	n.Angles = slices.Clone(n.Angles)
	for i, x := range angles {
		n.Angles[i].Angle = to(max(x-d.from(0, within), 0), min(x+d.from(0, within), 648000))
	}
	return n
}

// net returns a net that is measured, and its truth, with at most so many triangles.
func (d *dice) net(most, within int) (api.RoundsNet, []int) {
	for range 1000 {
		triangles := d.from(1, most)
		stations := d.from(3, api.RoundsStations)
		n := d.wide(triangles, stations, d.from(0, min(stations, triangles/2)))
		if angles := d.truth(n); angles != nil {
			return d.measured(n, angles, within), angles
		}
	}
	// a wrong Spans must not keep a test from ending
	panic("of no net angles close")
}

// spoiled returns the net with some angles measured wrongly, each by at most so many seconds.
func (d *dice) spoiled(n api.RoundsNet, count, by int) api.RoundsNet {
	for range count {
		i := d.from(0, len(n.Angles)-1)
		s := n.Angles[i].Angle
		x := min(max(d.from(-by, by), -s.Low), 648000-s.High)
		n = withSpan(n, i, to(s.Low+x, s.High+x))
	}
	return n
}

// input has all that a call can need.
type input struct {
	repeat api.RoundsRepeat
	faces  api.RoundsFaces
	net    api.RoundsNet
	angles []int
	proof  api.RoundsProof
}

// result has a field for each kind of result.
type result struct {
	ok    bool
	p, q  api.Span
	spans []api.Span
	list  []int
	proof api.RoundsProof
	e     api.Errno
}

// call is a call of the package, all of whose results are in one value (an empty list is nil); and the error of what it has beside a net.
type call struct {
	name string
	own  api.Errno
	do   func(in input) result
}

// some returns nil for an empty list.
func some[T any](l []T) []T {
	if len(l) == 0 {
		return nil
	}
	return l
}

// netCalls returns the calls that have a net.
func netCalls() []call {
	return []call{
		{"Check", api.OK, func(in input) (r result) {
			r.e = rounds.Check(in.net)
			return r
		}},
		{"Closes", api.ErrRoundsTruth, func(in input) (r result) {
			r.ok, r.e = rounds.Closes(in.net, in.angles)
			return r
		}},
		{"Some", api.OK, func(in input) (r result) {
			r.list, r.e = rounds.Some(in.net)
			r.list = some(r.list)
			return r
		}},
		{"Spans", api.OK, func(in input) (r result) {
			r.spans, r.e = rounds.Spans(in.net)
			r.spans = some(r.spans)
			return r
		}},
		{"Holds", api.ErrRoundsTruth, func(in input) (r result) {
			r.ok, r.e = rounds.Holds(in.net, in.proof)
			return r
		}},
		{"Proof", api.OK, func(in input) (r result) {
			r.proof, r.e = rounds.Proof(in.net)
			r.proof.Triangles, r.proof.Stations = some(r.proof.Triangles), some(r.proof.Stations)
			return r
		}},
		{"Suspects", api.OK, func(in input) (r result) {
			r.list, r.e = rounds.Suspects(in.net)
			r.list = some(r.list)
			return r
		}},
	}
}

// allCalls returns the calls of all functions.
func allCalls() []call {
	return append(netCalls(),
		call{"Repeat", api.ErrRoundsRead, func(in input) (r result) {
			r.spans, r.e = rounds.Repeat(in.repeat)
			r.spans = some(r.spans)
			return r
		}},
		call{"Faces", api.ErrRoundsRead, func(in input) (r result) {
			r.p, r.q, r.e = rounds.Faces(in.faces)
			return r
		}},
	)
}
