package fix

import "octant/api"

const (
	clocks = 3 // that a step has
	agreed = 2 // that must agree
)

// log is a log in the calculation.
type log struct{ api.FixLog }

func (l log) valid() bool {
	if !isSpan(l.East, 0, api.FixSea-1) || !isSpan(l.North, 0, api.FixSea-1) || len(l.Steps) > api.FixSteps {
		return false
	}
	for _, x := range l.Steps {
		if !(step{x}).valid() {
			return false
		}
	}
	return true
}

// step is a step in the calculation.
type step struct{ api.FixStep }

// valid reports whether a step is one of its kind, with all other fields zero.
func (s step) valid() bool {
	kinds := [...]func(step) bool{api.FixSight: step.isSight, api.FixRun: step.isRun, api.FixLong: step.isLong}
	return within(s.Kind, api.FixSight, api.FixLong) && kinds[s.Kind](s)
}

func (s step) isSight() bool {
	return isLine(s.A, s.B) && isSpan(s.Value, -api.FixValue, api.FixValue) && s.hasNoRun() && s.hasNoClocks()
}

func (s step) isRun() bool {
	return isSpan(s.East, -api.FixSea, api.FixSea) && isSpan(s.North, -api.FixSea, api.FixSea) && s.hasNoSight() && s.hasNoClocks()
}

func (s step) isLong() bool {
	return len(s.Clocks) == clocks && areSpans(s.Clocks, -api.FixValue, api.FixValue) && s.hasNoSight() && s.hasNoRun()
}

func (s step) hasNoSight() bool  { return s.A == 0 && s.B == 0 && s.Value == api.Span{} }
func (s step) hasNoRun() bool    { return s.East == api.Span{} && s.North == api.Span{} }
func (s step) hasNoClocks() bool { return len(s.Clocks) == 0 }

// isLine reports whether numbers are the factors of a line.
func isLine(a, b int) bool {
	return within(a, -api.FixSlope, api.FixSlope) && within(b, -api.FixSlope, api.FixSlope) && (a != 0 || b != 0)
}

// value returns what a line has at a point.
func value(a, b int, p api.FixPoint) int { return a*p.East + b*p.North }

// done returns where the ship can be behind the step, if it could be at some points before it.
func (s step) done(at sea) sea {
	kinds := [...]func(step, sea) sea{api.FixSight: step.sighted, api.FixRun: step.ran, api.FixLong: step.timed}
	return kinds[s.Kind](s, at)
}

func (s step) sighted(at sea) sea {
	return at.kept(func(p api.FixPoint) bool { return isIn(value(s.A, s.B, p), s.Value) })
}

func (s step) ran(at sea) sea { return at.moved(s.East, s.North) }

func (s step) timed(at sea) sea {
	return at.kept(func(p api.FixPoint) bool {
		agree := 0
		for _, c := range s.Clocks {
			if isIn(p.East, c) {
				agree++
			}
		}
		return agree >= agreed
	})
}
