package glass

import (
	"slices"

	"octant/api"
)

// blanks are the blanks of an objective: of the first lens and of the second one.
type blanks [2]int

func blanksOf(o api.GlassObjective) blanks { return blanks{o.First, o.Second} }

// parts are what a truth says of the parts of an objective.
type parts struct {
	index, colours [2]int // of its blanks
	curve          [3]int // of its tools
}

// newParts returns the parts of an objective with a truth.
func newParts(o api.GlassObjective, t api.GlassTruth) parts {
	var with parts
	for lens, blank := range blanksOf(o) {
		with.index[lens], with.colours[lens] = t.Index[blank], t.Colour[blank]
	}
	for surface, tool := range o.Tools {
		with.curve[surface] = t.Curve[tool]
	}
	return with
}

func (p parts) power() int { return p.bent(p.index) }

func (p parts) colour() int { return p.bent(p.colours) }

// bent returns what both lenses do together if each does so much for its bend.
func (p parts) bent(each [2]int) int {
	return each[0]*(p.curve[0]-p.curve[1]) + each[1]*(p.curve[1]-p.curve[2])
}

// corners is how many truths there are, for an objective, in which all is at an end of its span: two blanks and at most three tools are at either one. Power and colour are greatest, and least, in some of them, since each grows evenly with any one of its parts while the others stay.
const corners = 1 << 5

// corner returns the parts of an objective in a corner, whose bits tell which ones are at the upper end. (A blank's index and colour have the same bit: nothing depends on both.)
func (s stock) corner(o api.GlassObjective, corner int) parts {
	end := func(x api.Span, bit int) int {
		if corner>>bit&1 == 1 {
			return x.High
		}
		return x.Low
	}
	var with parts
	for lens, blank := range blanksOf(o) {
		b := s.Blanks[blank]
		with.index[lens], with.colours[lens] = end(b.Index, lens), end(b.Colour, lens)
	}
	for surface, tool := range o.Tools {
		// a tool has one curvature, for whichever surfaces it is used
		first := slices.Index(o.Tools[:], tool)
		with.curve[surface] = end(s.Tools[tool], len(blanks{})+first)
	}
	return with
}

// spans returns between what the power and the colour of an objective lie.
func (s stock) spans(o api.GlassObjective) (power, colour api.Span) {
	var powers, colours []int
	for corner := range corners {
		with := s.corner(o, corner)
		powers, colours = append(powers, with.power()), append(colours, with.colour())
	}
	return around(powers[0], powers...), around(colours[0], colours...)
}
