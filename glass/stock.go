package glass

import (
	"iter"

	"octant/api"
)

// stock is a stock in the calculation.
type stock struct{ api.GlassStock }

func (s stock) valid() bool {
	if !(span{2, api.GlassBlanks}).has(len(s.Blanks)) || !(span{1, api.GlassTools}).has(len(s.Tools)) {
		return false
	}
	for _, b := range s.Blanks {
		if !isSpan(b.Index, 1, api.GlassIndex) || !isSpan(b.Colour, 1, api.GlassColour) || !(span{0, api.GlassPrice}).has(b.Price) {
			return false
		}
	}
	for _, tool := range s.Tools {
		if !isSpan(tool, -api.GlassCurve, api.GlassCurve) {
			return false
		}
	}
	return true
}

// haveMade reports whether an objective is one of the stock.
func (s stock) haveMade(o api.GlassObjective) bool {
	isBlank, isTool := span{0, len(s.Blanks) - 1}.has, span{0, len(s.Tools) - 1}.has
	return o.First != o.Second && all(isBlank, o.First, o.Second) && all(isTool, o.Tools[:]...)
}

// haveTruth reports whether a truth is one of the stock.
func (s stock) haveTruth(t api.GlassTruth) bool {
	if len(t.Index) != len(s.Blanks) || len(t.Colour) != len(s.Blanks) || len(t.Curve) != len(s.Tools) {
		return false
	}
	for i, b := range s.Blanks {
		if !span(b.Index).has(t.Index[i]) || !span(b.Colour).has(t.Colour[i]) {
			return false
		}
	}
	for i, tool := range s.Tools {
		if !span(tool).has(t.Curve[i]) {
			return false
		}
	}
	return true
}

// objectives produces all objectives of the stock, in their order.
func (s stock) objectives() iter.Seq[api.GlassObjective] {
	return func(yield func(api.GlassObjective) bool) {
		for both := range s.pairs() {
			for tools := range s.surfaces() {
				if !yield(api.GlassObjective{First: both[0], Second: both[1], Tools: tools}) {
					return
				}
			}
		}
	}
}

// pairs produces the blanks of all objectives, in their order.
func (s stock) pairs() iter.Seq[blanks] {
	return func(yield func(blanks) bool) {
		for first := range s.Blanks {
			for second := range s.Blanks {
				if first != second && !yield(blanks{first, second}) {
					return
				}
			}
		}
	}
}

// surfaces produces the tools of all objectives, in their order.
func (s stock) surfaces() iter.Seq[[3]int] {
	return func(yield func([3]int) bool) {
		for front := range s.Tools {
			for middle := range s.Tools {
				for back := range s.Tools {
					if !yield([3]int{front, middle, back}) {
						return
					}
				}
			}
		}
	}
}
