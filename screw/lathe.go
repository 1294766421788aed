package screw

import (
	"iter"
	"slices"

	"octant/api"
)

// lathe is a lathe in the calculation.
type lathe struct{ api.ScrewLathe }

// gear is how often the lathe's own screw turns while the work turns once: a fraction in lowest terms, so that gears that do the same are equal.
type gear struct{ num, den int }

func newGear(num, den int) gear {
	a, b := num, den
	for b != 0 {
		a, b = b, a%b
	}
	return gear{num / a, den / a}
}

// off returns by how much a gear differs from another one, in parts of the product of both dens.
func (g gear) off(other gear) int {
	d := g.num*other.den - other.num*g.den
	return max(d, -d)
}

// nearer reports whether a differs less from this gear than b.
func (g gear) nearer(a, b gear) bool { return g.off(a)*b.den < g.off(b)*a.den }

// areGears reports whether wheels are gears of the lathe.
func (l lathe) areGears(wheels []int) bool {
	if len(wheels) != 2 && len(wheels) != 4 {
		return false
	}
	for place, wheel := range wheels {
		if !within(wheel, 0, len(l.Wheels)-1) || slices.Contains(wheels[:place], wheel) {
			return false
		}
	}
	return true
}

// gear returns the gear that wheels are.
func (l lathe) gear(wheels []int) gear {
	sides := [2]int{1, 1} // the teeth of what drives, and of what is driven
	for place, wheel := range wheels {
		sides[place%2] *= l.Wheels[wheel]
	}
	return newGear(sides[0], sides[1])
}

// pitch returns the pitch that wheels cut, in lowest terms.
func (l lathe) pitch(wheels []int) (num, den int) {
	g := l.gear(wheels)
	p := newGear(l.Num*g.num, l.Den*g.den)
	return p.num, p.den
}

// wanted returns the gear that would cut a pitch.
func (l lathe) wanted(num, den int) gear { return newGear(num*l.Den, den*l.Num) }

// all produces all gears, in their order.
func (l lathe) all() iter.Seq[[]int] {
	return func(yield func([]int) bool) {
		for _, count := range [...]int{2, 4} {
			if !l.longer(nil, count, yield) {
				return
			}
		}
	}
}

// longer produces all gears of so many wheels that begin with some, and reports whether more are asked for.
func (l lathe) longer(wheels []int, count int, yield func([]int) bool) bool {
	if len(wheels) == count {
		return yield(wheels[:count:count])
	}
	for wheel := range len(l.Wheels) {
		if slices.Contains(wheels, wheel) {
			continue
		}
		// without room behind it, so that no two gears share memory
		if !l.longer(append(wheels[:len(wheels):len(wheels)], wheel), count, yield) {
			return false
		}
	}
	return true
}

// exact returns the first wheels that are a gear, or nil.
func (l lathe) exact(wanted gear) []int {
	for wheels := range l.all() {
		if l.gear(wheels) == wanted {
			return wheels
		}
	}
	return nil
}

// nearest returns the wheels whose gear differs least from a gear, of several the first ones.
func (l lathe) nearest(wanted gear) []int {
	var gears []gear          // in the order of their first wheels
	first := map[gear][]int{} // the first wheels of each
	for wheels := range l.all() {
		g := l.gear(wheels)
		if _, known := first[g]; !known {
			first[g] = wheels
			gears = append(gears, g)
		}
	}
	return first[best(wanted.nearer, gears[0], gears[1:]...)]
}
