package rounds

import "octant/api"

// repetition is a repetition in the calculation.
type repetition struct{ api.RoundsRepeat }

func (r repetition) valid() bool {
	return isDirection(r.First) && isDirection(r.Last) &&
		within(r.Times, 1, api.RoundsTimes) &&
		isSpan(r.Rough, 0, api.RoundsCircle-1) &&
		within(r.Wrong, 0, api.RoundsWrong)
}

// angles returns the angles that agree, as the fewest spans.
func (r repetition) angles() []api.Span {
	var list []api.Span
	turned := onCircle(r.Last - r.First)
	// readings that are wrong can hide that the circle was not yet, or just, turned round: one circle less, and one more
	for count := range r.Times + 2 {
		all := turned + (count-1)*api.RoundsCircle
		// the next span lies more than half a circle, divided by Times, higher: they never meet
		angles := common(r.Rough, api.Span{
			Low:  roundUp(all-2*r.Wrong, r.Times),
			High: roundDown(all+2*r.Wrong, r.Times),
		})
		if angles != noSpan() {
			list = append(list, angles)
		}
	}
	return list
}
