package sextant

import "octant/api"

// pair is a pair of readings of the sun in the calculation.
type pair struct{ api.SextantSun }

// byOn returns the diameter by what was read on the arc, with an index error.
func (p pair) byOn(index int) int { return p.On + index }

// byOff returns the diameter by what was read off the arc, with an index error.
func (p pair) byOff(index int) int { return p.Off - index }

// arePairs reports whether pairs of readings of the sun are such.
func arePairs(l []api.SextantSun) bool {
	if !within(len(l), 1, api.SextantSuns) {
		return false
	}
	for _, one := range l {
		if !within(one.On, 0, mostSun) || !within(one.Off, 0, mostSun) {
			return false
		}
	}
	return true
}

// mostSun is the most that can be read of the sun.
const mostSun = 6000

// bySun returns between what the index errors and the diameters lie with which pairs can be so.
func (s sextant) bySun(diameter api.Span, l []api.SextantSun) (index, disc api.Span) {
	index, disc = noSpan(), noSpan()
	readings := [2]func(pair, int) int{pair.byOn, pair.byOff}
errors:
	for i := range s.indexErrors() {
		now := diameter
		for _, one := range l {
			for _, reading := range readings {
				now = common(now, sum(exactly(reading(pair{one}, i)), upTo(s.Wrong)))
			}
			if now == noSpan() {
				continue errors
			}
		}
		index, disc = around(index, exactly(i)), around(disc, now)
	}
	return index, disc
}
