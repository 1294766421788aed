package fix

import (
	"slices"

	"octant/api"
)

// leg is a run, and the steps that follow it up to the next run.
type leg []api.FixStep

// legs returns those of the log. What lies East and North at first is a run from the corner of the sea: so the first point of a track is like all others.
func (l log) legs() []leg {
	first := api.FixStep{Kind: api.FixRun, East: l.East, North: l.North}
	steps := append([]api.FixStep{first}, l.Steps...)
	var list []leg
	from := 0
	for end := 1; end <= len(steps); end++ {
		if end == len(steps) || steps[end].Kind == api.FixRun {
			list = append(list, steps[from:end:end])
			from = end
		}
	}
	return list
}

// corner is where the first leg begins.
func corner() api.FixPoint { return api.FixPoint{} }

// done returns where the ship can be behind the leg, if it could be at some points before it.
func (l leg) done(at sea) sea {
	for _, x := range l {
		at = step{x}.done(at)
	}
	return at
}

// undone returns from where the leg's run leads to one of some points.
func (l leg) undone(at sea) sea {
	return at.moved(opposite(l[0].East), opposite(l[0].North))
}

// hasTrack reports whether a track is a true one of the log.
func (l log) hasTrack(track []api.FixPoint) bool {
	legs := l.legs()
	if len(track) != len(legs) {
		return false
	}
	from := corner()
	for i, to := range track {
		if !legs[i].done(only(from)).has(to) {
			return false
		}
		from = to
	}
	return true
}

// course is the legs of a log, and where the ship can be behind each of them by all that was known then.
type course struct {
	legs   []leg
	places []sea
}

func (l log) course() course {
	c := course{legs: l.legs()}
	at := only(corner())
	for _, x := range c.legs {
		at = x.done(at)
		c.places = append(c.places, at)
	}
	return c
}

// runs returns how many the log has: the first leg's is none of it.
func (c course) runs() int { return len(c.legs) - 1 }

// ends returns the last points of all true tracks.
func (c course) ends() sea { return c.places[c.runs()] }

// before returns the points behind a leg from which the next one's run leads to one of some points.
func (c course) before(number int, at sea) sea {
	return c.places[number].shared(c.legs[number+1].undone(at))
}

// behind returns the points at which true tracks are behind so many runs.
func (c course) behind(run int) sea {
	at := c.ends()
	for number := c.runs() - 1; number >= run; number-- {
		at = c.before(number, at)
	}
	return at
}

// trackTo returns a true track to one of its ends.
func (c course) trackTo(end api.FixPoint) []api.FixPoint {
	var track []api.FixPoint
	var back func(number int, at api.FixPoint)
	back = func(number int, at api.FixPoint) {
		track = append(track, at)
		if number == 0 {
			return
		}
		before := c.before(number-1, only(at))
	search:
		for p := range before.points() {
			back(number-1, p)
			break search // whichever it is: to each of these points the ship can have come
		}
	}
	back(c.runs(), end)
	slices.Reverse(track)
	return track
}
