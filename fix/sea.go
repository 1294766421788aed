package fix

import (
	"iter"
	"slices"

	"octant/api"
)

// row is at which points of a row the ship can be.
type row [api.FixSea]bool

// drifted returns at which points of the row the ship can be behind a move along it.
func (r row) drifted(by api.Span) row {
	var latest [api.FixSea]int // up to each point, the last one where the ship could be
	last := -2 * api.FixSea    // so far off that no move comes from there
	for x := range r {
		if r[x] {
			last = x
		}
		latest[x] = last
	}
	var moved row
	for x := range moved {
		nearest := min(x-by.Low, api.FixSea-1)
		moved[x] = nearest >= 0 && latest[nearest] >= x-by.High
	}
	return moved
}

// sea is at which points the ship can be: a row for each East, by North.
type sea [api.FixSea]row

// only returns the sea with a single point.
func only(p api.FixPoint) sea {
	var s sea
	s[p.East][p.North] = true
	return s
}

func (s sea) isEmpty() bool { return s == sea{} }

// points produces the points, in order.
func (s sea) points() iter.Seq[api.FixPoint] {
	return func(yield func(api.FixPoint) bool) {
		for east := range api.FixSea {
			for north := range api.FixSea {
				if s[east][north] && !yield(api.FixPoint{East: east, North: north}) {
					return
				}
			}
		}
	}
}

// list returns the points, in order.
func (s sea) list() []api.FixPoint { return slices.Collect(s.points()) }

// has reports whether a point, which may lie off the sea, is one of them.
func (s sea) has(p api.FixPoint) bool {
	for x := range s.points() {
		if x == p {
			return true
		}
	}
	return false
}

// kept returns those of the points at which something holds.
func (s sea) kept(holds func(api.FixPoint) bool) sea {
	var left sea
	for p := range s.points() {
		left[p.East][p.North] = holds(p)
	}
	return left
}

// shared returns the points that another sea has too.
func (s sea) shared(other sea) sea {
	return s.kept(func(p api.FixPoint) bool { return other[p.East][p.North] })
}

// turned returns the sea whose rows are those for each North, by East.
func (s sea) turned() sea {
	var t sea
	for p := range s.points() {
		t[p.North][p.East] = true
	}
	return t
}

// drifted returns where the ship can be behind a move along its row.
func (s sea) drifted(by api.Span) sea {
	for x := range api.FixSea {
		s[x] = s[x].drifted(by)
	}
	return s
}

// moved returns where the ship can be behind a run.
func (s sea) moved(east, north api.Span) sea {
	return s.drifted(north).turned().drifted(east).turned()
}
