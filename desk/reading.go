package desk

import "octant/api"

// shades tells of each shade whether it is used: a number of a line, of six digits, has no further bits.
type shades [20]bool

// lacking returns those of a set that a sextant does not have.
func lacking(set int, s api.Sextant) shades {
	var list shades
	for k := len(s.Shade); k < len(list); k++ {
		list[k] = set>>k&1 == 1
	}
	return list
}

// readingOf returns the reading of a line, if a sextant has all shades that are used.
func readingOf(x told, s api.Sextant) api.SextantReading {
	set := x.numbers['S']
	need(lacking(set, s) == shades{}, api.ErrDeskTrial)
	return api.SextantReading{At: x.numbers['A'], Shades: set}
}
