package level

import (
	"iter"
	"math"

	"octant/api"
)

// vial is a vial in the calculation.
type vial struct{ api.LevelVial }

func (v vial) valid() bool {
	return within(v.Marks, 10, api.LevelMarks) &&
		isSpan(v.Length, 1, v.Marks) &&
		isSpan(v.Value, 1, api.LevelValue) &&
		isSpan(v.Zero, 0, 2*v.Marks) &&
		within(v.Wrong, 0, api.LevelWrong)
}

// haveReadings reports whether readings are such of the vial.
func (v vial) haveReadings(l []api.LevelReading) bool {
	if !within(len(l), 1, api.LevelReadings) {
		return false
	}
	for _, r := range l {
		if r.Left < 0 || r.Right <= r.Left || r.Right > v.Marks {
			return false
		}
		if !within(r.Right-r.Left, v.Length.Low-v.Wrong, v.Length.High+v.Wrong) {
			return false
		}
	}
	return true
}

// haveTruth reports whether a truth is one of the vial.
func (v vial) haveTruth(t api.LevelTruth) bool {
	return within(t.Value, v.Value.Low, v.Value.High) && within(t.Zero, v.Zero.Low, v.Zero.High)
}

// near returns between what the true middle lies if a middle was read.
func (v vial) near(middle int) api.Span {
	return api.Span{Low: middle - v.Wrong, High: middle + v.Wrong}
}

// middles returns what readings tell of the true middles.
func (v vial) middles(l []api.LevelReading) middles {
	m := middles{}
	for _, r := range l {
		m = v.read(m, r)
	}
	return m
}

// read returns the middles with a further reading.
func (v vial) read(m middles, r api.LevelReading) middles {
	return m.with(r.Turned, v.near(r.Left+r.Right))
}

// zeros produces all zeros that the vial can have, increasing.
func (v vial) zeros() iter.Seq[int] {
	return func(yield func(int) bool) {
		for zero := v.Zero.Low; zero <= v.Zero.High; zero++ {
			if !yield(zero) {
				return
			}
		}
	}
}

// tilts returns between what the tilts lie that move the bubble by a number in a span.
func (v vial) tilts(moved api.Span) api.Span {
	return api.Span{
		Low:  min(v.Value.Low*moved.Low, v.Value.High*moved.Low),
		High: max(v.Value.Low*moved.High, v.Value.High*moved.High),
	}
}

// outcome is between what the tilt, and the zero lie.
type outcome struct{ tilt, zero api.Span }

// nothing is the outcome if there is no truth.
func nothing() outcome { return outcome{noSpan(), noSpan()} }

// truths returns the outcome of all truths in which readings can all be so.
func (v vial) truths(m middles) outcome {
	found, list := nothing(), m.evidence()
zeros:
	for zero := range v.zeros() {
		moved := api.Span{Low: math.MinInt, High: math.MaxInt}
		for _, one := range list {
			moved = common(moved, one.moved(zero))
			if moved == noSpan() {
				continue zeros
			}
		}
		found.tilt = around(found.tilt, v.tilts(moved))
		found.zero = around(found.zero, api.Span{Low: zero, High: zero})
	}
	return found
}
