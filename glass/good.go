package glass

import (
	"iter"
	"maps"
	"slices"

	"octant/api"
)

// finding is what was found of an objective that is good: its worst colour, and the price of both blanks.
type finding struct{ worst, price int }

// good returns those of some objectives that are good for a wish, with what was found of each.
func (s stock) good(w api.GlassWant, list iter.Seq[api.GlassObjective]) map[api.GlassObjective]finding {
	found := map[api.GlassObjective]finding{}
	isPower, isColour := span(w.Power).has, span{-w.Colour, w.Colour}.has
objectives:
	for o := range list {
		f := finding{price: s.Blanks[o.First].Price + s.Blanks[o.Second].Price}
		for corner := range corners {
			with := s.corner(o, corner)
			if !isPower(with.power()) || !isColour(with.colour()) {
				continue objectives
			}
			f.worst = greatest(f.worst, with.colour(), -with.colour())
		}
		found[o] = f
	}
	return found
}

// merit is a side of how good an objective is: the less there is of it, the better.
type merit struct{ of func(f finding) int }

// merits returns all sides of how good an objective is: each one decides between those that are alike by the sides before it.
func merits() [2]merit {
	return [2]merit{
		{func(f finding) int { return f.worst }},
		{func(f finding) int { return f.price }},
	}
}

// better reports whether an objective is better than another one.
func (f finding) better(other finding) bool {
	for _, m := range merits() {
		if m.of(f) != m.of(other) {
			return m.of(f) < m.of(other)
		}
	}
	return false
}

// best returns the first one of those objectives than which none is better.
func (s stock) best(found map[api.GlassObjective]finding) api.GlassObjective {
	// in any order: those than which none is better are equal
	list := slices.Collect(maps.Values(found))
	top := best(finding.better, list[0], list...)
	for o := range s.objectives() {
		if f, good := found[o]; good && f == top {
			return o
		}
	}
	return api.GlassObjective{}
}

// most returns as many objectives at once, of those that were found, as there can be.
func (s stock) most(found map[api.GlassObjective]finding) []api.GlassObjective {
	made := s.made(found)
	// pair returns the most that can be made of some blanks, which are increasing.
	var pair func(free []int) []api.GlassObjective
	pair = func(free []int) []api.GlassObjective {
		if len(free) < 2 {
			return nil
		}
		one, others := free[0], free[1:]
		list := pair(others) // if this one is left
		for i, other := range others {
			o, some := made[blanks{one, other}]
			if !some {
				continue
			}
			rest := pair(slices.Concat(others[:i], others[i+1:]))
			if len(rest)+1 > len(list) {
				list = append(rest, o)
			}
		}
		return list
	}
	var free []int
	for blank := range s.Blanks {
		free = append(free, blank)
	}
	return pair(free)
}

// made returns one objective, of those that were found, for each two blanks that some can be made of, by these blanks, the lesser one first.
func (s stock) made(found map[api.GlassObjective]finding) map[blanks]api.GlassObjective {
	made := map[blanks]api.GlassObjective{}
	for o := range s.objectives() {
		if _, good := found[o]; good {
			made[blanks{least(o.First, o.Second), greatest(o.First, o.Second)}] = o
		}
	}
	return made
}
