package rounds

import "octant/api"

// faces are the readings of both faces in the calculation.
type faces struct{ api.RoundsFaces }

func (f faces) valid() bool {
	return isDirection(f.Left) && isDirection(f.Right) &&
		within(f.Wrong, 0, api.RoundsWrong) && within(f.Lean, 0, api.RoundsLean)
}

// apart returns how far the right face shows more than half a circle behind the left one. A direction and a lean that agree cannot be so far off that whole circles matter here.
func (f faces) apart() int { return onCircle(f.Right-f.Left) - api.RoundsCircle/2 }

// leans returns between what the leans of all that agrees lie.
func (f faces) leans() api.Span {
	// the lean, taken twice, differs from what the faces are apart, with the other sign, by what both readings are wrong by
	twice := api.Span{Low: -f.apart() - 2*f.Wrong, High: -f.apart() + 2*f.Wrong}
	return common(
		api.Span{Low: -f.Lean, High: f.Lean},
		api.Span{Low: roundUp(twice.Low, 2), High: roundDown(twice.High, 2)},
	)
}

// directions returns between what all directions that agree lie, with leans.
func (f faces) directions(leans api.Span) api.Span {
	// the nearer a lean is to the mean of both faces, the more each reading can be wrong either way
	lean := min(max(roundDown(-f.apart(), 2), leans.Low), leans.High)
	byLeft := api.Span{Low: f.Left - lean - f.Wrong, High: f.Left - lean + f.Wrong}
	byRight := api.Span{Low: f.Left + f.apart() + lean - f.Wrong, High: f.Left + f.apart() + lean + f.Wrong}
	return common(byLeft, byRight)
}
