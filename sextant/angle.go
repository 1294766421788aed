package sextant

import (
	"iter"

	"octant/api"
)

// sextant is a sextant in the calculation.
type sextant struct{ api.Sextant }

func (s sextant) valid() bool {
	return within(s.Step, 1, api.SextantStep) &&
		within(len(s.Table), 2, api.SextantNodes) && areSpans(s.Table, api.SextantCorrect) &&
		s.last() <= api.SextantLong &&
		isSpan(s.Index, -api.SextantIndex, api.SextantIndex) &&
		within(s.Wrong, 0, api.SextantWrong) &&
		len(s.Shade) <= api.SextantShades && areSpans(s.Shade, api.SextantShade)
}

// last returns the last angle of the table.
func (s sextant) last() int { return s.Step * (len(s.Table) - 1) }

// allShades returns the set of all shades.
func (s sextant) allShades() int { return 1<<len(s.Shade) - 1 }

// haveReading reports whether a reading is one of the sextant.
func (s sextant) haveReading(x api.SextantReading) bool {
	return within(x.At, 0, s.last()) && within(x.Shades, 0, s.allShades())
}

// indexErrors produces all index errors that the sextant can have, increasing.
func (s sextant) indexErrors() iter.Seq[int] {
	return func(yield func(int) bool) {
		for i := s.Index.Low; i <= s.Index.High; i++ {
			if !yield(i) {
				return
			}
		}
	}
}

// adding is something that adds to the angle that is read.
type adding interface {
	adds(x api.SextantReading) api.Span // between what this lies
}

// always adds between the same two numbers to each reading.
type always api.Span

func (a always) adds(api.SextantReading) api.Span { return api.Span(a) }

// shade adds its error if it is used.
type shade struct {
	number int
	span   api.Span
}

func (h shade) adds(x api.SextantReading) api.Span {
	if x.Shades>>h.number&1 == 0 {
		return exactly(0)
	}
	return h.span
}

// corrections adds the correction at the angle that is read.
type corrections struct {
	step  int
	table []api.Span
}

func (c corrections) adds(x api.SextantReading) api.Span {
	first, behind := x.At/c.step, x.At%c.step
	if behind == 0 {
		return c.table[first]
	}
	a, b := c.table[first], c.table[first+1]
	// the correction does not fall as either one of these grows
	return api.Span{Low: c.between(a.Low, b.Low, behind), High: c.between(a.High, b.High, behind)}
}

// between returns the correction so far behind the first one of two angles of the table.
func (c corrections) between(first, second, behind int) int {
	return roundDown(first*(c.step-behind)+second*behind, c.step)
}

// roundDown divides a number by one above 0, and rounds down.
func roundDown(x, by int) int {
	q := x / by
	if x%by < 0 {
		q--
	}
	return q
}

// lasting returns what adds to all readings alike in a truth: index error and corrections.
func (s sextant) lasting() []adding {
	all := len(s.Table)
	// an append to what is handed on could not reach what lies behind the table
	return []adding{always(s.Index), corrections{s.Step, s.Table[:all:all]}}
}

// passing returns what may add to each reading otherwise: by how much it is wrong, and the shades.
func (s sextant) passing() []adding {
	list := []adding{always(upTo(s.Wrong))}
	for number, span := range s.Shade {
		list = append(list, shade{number, span})
	}
	return list
}

// together returns between what lies what all of several things add to a reading.
func together(l []adding, x api.SextantReading) api.Span {
	var spans []api.Span
	for _, one := range l {
		spans = append(spans, one.adds(x))
	}
	return sum(spans...)
}

// angle returns between what the true angle of a reading lies.
func (s sextant) angle(x api.SextantReading) api.Span {
	return sum(exactly(x.At), together(s.lasting(), x), together(s.passing(), x))
}

// fault returns the greatest width of the span of the true angle, of all readings.
func (s sextant) fault() int {
	var list []api.Span
	// between two angles of the table the correction is nowhere wider than at the one where it is wider, whatever is rounded
	for k := range len(s.Table) {
		list = append(list, s.angle(api.SextantReading{At: k * s.Step, Shades: s.allShades()}))
	}
	return width(best(wider, list[0], list[1:]...))
}
