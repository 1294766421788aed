package screw

import "octant/api"

// mostErrors is how many errors screws can have in all.
const mostErrors = api.ScrewScrews * (api.ScrewTurns + 1)

// distances is, for each error, how far it can be from 0, below and above: the distances from the beginnings, which do not err. (An error that the screws do not have stays at 0.)
type distances [mostErrors]api.Span

// number returns the place of an error in distances.
func number(screw, turn int) int { return screw*(api.ScrewTurns+1) + turn }

// narrow narrows two distances by a reading, and reports whether each of them is a span still.
func (d *distances) narrow(r api.ScrewReading) bool {
	a, b := &d[number(r.A, r.I)], &d[number(r.B, r.J)]
	low, high := r.Value-r.Wrong, r.Value+r.Wrong
	a.Low, a.High = max(a.Low, b.Low+low), min(a.High, b.High+high)
	b.Low, b.High = max(b.Low, a.Low-high), min(b.High, a.High-low)
	return a.Low <= a.High // if a is a span still, a number of b has let it be one, so that b is, too
}

// screws is screws in the calculation.
type screws struct{ api.ScrewSet }

func (s screws) valid() bool {
	if !within(len(s.Turns), 1, api.ScrewScrews) || !within(s.Most, 0, api.ScrewMost) {
		return false
	}
	for _, turns := range s.Turns {
		if !within(turns, 1, api.ScrewTurns) {
			return false
		}
	}
	return true
}

// haveReadings reports whether readings are such of the screws.
func (s screws) haveReadings(l []api.ScrewReading) bool {
	if len(l) > api.ScrewReadings {
		return false
	}
	for _, r := range l {
		if !s.haveError(r.A, r.I) || !s.haveError(r.B, r.J) {
			return false
		}
		if !within(r.Value, -2*api.ScrewMost, 2*api.ScrewMost) || !within(r.Wrong, 0, api.ScrewMost) {
			return false
		}
	}
	return true
}

// haveError reports whether there is a screw that has an error at the end of a turn.
func (s screws) haveError(screw, turn int) bool {
	return within(screw, 0, len(s.Turns)-1) && within(turn, 0, s.Turns[screw])
}

// haveErrors reports whether errors are such of the screws.
func (s screws) haveErrors(errors [][]int) bool {
	if len(errors) != len(s.Turns) {
		return false
	}
	for screw, list := range errors {
		if len(list) != s.Turns[screw]+1 || list[0] != 0 {
			return false
		}
		for _, x := range list {
			if !within(x, -s.Most, s.Most) {
				return false
			}
		}
	}
	return true
}

// allHold reports whether all readings hold for errors.
func allHold(l []api.ScrewReading, errors [][]int) bool {
	for _, r := range l {
		if !within(errors[r.A][r.I]-errors[r.B][r.J]-r.Value, -r.Wrong, r.Wrong) {
			return false
		}
	}
	return true
}

// widest returns the distances without any readings.
func (s screws) widest() distances {
	var d distances
	for screw, turns := range s.Turns {
		for i := range turns {
			d[number(screw, i+1)] = api.Span{Low: -s.Most, High: s.Most}
		}
	}
	return d
}

// truths returns the distances in all truths, and whether there is a truth.
func (s screws) truths(l []api.ScrewReading) (d distances, found bool) {
	d = s.widest()
	// If there is a truth, what bounds an error comes to it over each other error at most once: the last of so many rounds changes nothing.
rounds:
	for range mostErrors {
		before := d
		for _, r := range l {
			if !d.narrow(r) {
				break rounds
			}
		}
		if d == before {
			return d, true
		}
	}
	return distances{}, false
}

// spans returns the distances of each screw's errors.
func (s screws) spans(d distances) [][]api.Span {
	var all [][]api.Span
	for screw, turns := range s.Turns {
		var list []api.Span
		for turn := range turns + 1 {
			list = append(list, d[number(screw, turn)])
		}
		all = append(all, list[:len(list):len(list)])
	}
	return all[:len(all):len(all)]
}

// suspects returns the readings without which there is a truth.
func (s screws) suspects(l []api.ScrewReading) []int {
	maybeWrong := func(i int) bool {
		_, found := s.truths(append(l[:i:i], l[i+1:]...))
		return found
	}
	var list []int
	for i := range l {
		if maybeWrong(i) {
			list = append(list, i)
		}
	}
	return list[:len(list):len(list)]
}
