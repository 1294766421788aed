package level

import "octant/api"

// taken tells which readings are taken.
type taken [api.LevelReadings]bool

// list returns the numbers of the readings that are taken.
func (t taken) list() []int {
	var list []int
	for i, yes := range t {
		if yes {
			list = append(list, i)
		}
	}
	return list
}

// fewestFalse returns the fewest readings that cannot all be so, of several the first ones; none if all can.
func (v vial) fewestFalse(l []api.LevelReading) taken {
	// choose takes some more readings, from a place on, to those that are chosen, until they cannot all be so.
	var choose func(chosen taken, m middles, from, more int) taken
	choose = func(chosen taken, m middles, from, more int) taken {
		if more == 0 {
			if v.truths(m) == nothing() {
				return chosen
			}
			return taken{}
		}
		for i := from; i < len(l); i++ {
			longer := chosen
			longer[i] = true
			if found := choose(longer, v.read(m, l[i]), i+1, more-1); found != (taken{}) {
				return found
			}
		}
		return taken{}
	}
	for fewer := range len(l) {
		if found := choose(taken{}, middles{}, 0, fewer+1); found != (taken{}) {
			return found
		}
	}
	return taken{}
}
