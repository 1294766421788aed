package index

import (
	"iter"

	"octant/api"
)

// head is a dividing head in the calculation.
type head struct{ api.IndexHead }

// round returns how many holes of a circle a turn of the work has.
func (h head) round(circle int) int { return h.Teeth * h.Circles[circle] }

// fraction is a part of a turn of the work; it is not reduced.
type fraction struct{ num, den int }

// mover is what moves the work from one line to the next one.
type mover interface {
	part() fraction // of a turn of the work
}

// closes reports whether n moves turn the work just once.
func closes(m mover, n int) bool {
	f := m.part()
	return f.num*n == f.den
}

// planMove is a move by a plan.
type planMove struct {
	head
	api.IndexPlan
}

func (m planMove) part() fraction {
	return fraction{m.Turns*m.Circles[m.Circle] + m.Holes, m.round(m.Circle)}
}

// compoundMove is a move by a compound plan.
type compoundMove struct {
	head
	api.IndexPair
}

func (m compoundMove) part() fraction {
	a, b := m.Circles[m.A], m.Circles[m.B]
	return fraction{m.X*b + m.Y*a, m.round(m.A) * b}
}

// holes returns how many holes the crank moves, in both directions together.
func (m compoundMove) holes() int { return max(m.X, -m.X) + max(m.Y, -m.Y) }

// shorter reports whether a compound plan is better than another one.
func (m compoundMove) shorter(other compoundMove) bool { return m.holes() < other.holes() }

// plans produces all plans for n lines, by their circles.
func (h head) plans(n int) iter.Seq[api.IndexPlan] {
	return func(yield func(api.IndexPlan) bool) {
		for circle, holes := range h.Circles {
			q := h.round(circle) / n
			p := api.IndexPlan{Circle: circle, Turns: q / holes, Holes: q % holes}
			if closes(planMove{h, p}, n) && !yield(p) {
				return
			}
		}
	}
}

// shortest returns the compound plan for n lines than which none is better, of several the first one, and whether there is one.
func (h head) shortest(n int) (move compoundMove, found bool) {
	for m := range h.compounds(n) {
		if !found {
			move, found = m, true
		}
		move = best(compoundMove.shorter, move, m)
	}
	return move, found
}

// compounds produces all compound plans for n lines, by A, then B, then X.
func (h head) compounds(n int) iter.Seq[compoundMove] {
	return func(yield func(compoundMove) bool) {
		for a := range h.Circles {
			for b := a + 1; b < len(h.Circles); b++ {
				for m := range h.compoundsOn(a, b, n) {
					if !yield(m) {
						return
					}
				}
			}
		}
	}
}

// compoundsOn produces all compound plans for n lines on two circles, by X.
func (h head) compoundsOn(a, b, n int) iter.Seq[compoundMove] {
	return func(yield func(compoundMove) bool) {
		whole := h.round(a) * h.Circles[b]
		if whole%n != 0 { // no whole numbers of holes are one of n parts of it
			return
		}
		sum := whole / n
		for i := range 2*api.IndexMost + 1 {
			x := i - api.IndexMost
			y := (sum - x*h.Circles[b]) / h.Circles[a]
			m := compoundMove{h, api.IndexPair{A: a, B: b, X: x, Y: y}}
			if within(y, -api.IndexMost, api.IndexMost) && closes(m, n) && !yield(m) {
				return
			}
		}
	}
}

// differential returns the differential for n lines, and whether there is one.
func (h head) differential(r rack, n int) (api.IndexDiff, bool) {
	for i := range api.IndexAside {
		aside := i + 1
		for _, lines := range [...]int{n - aside, n + aside} {
			plan, found := h.firstPlan(lines)
			if !found {
				continue
			}
			if train := r.train(h.Teeth*aside, lines); train != noTrain() {
				return api.IndexDiff{Lines: lines, Plan: plan, Train: train, On: lines > n}, true
			}
		}
	}
	return api.IndexDiff{}, false
}

// firstPlan returns the first plan for n lines, and whether there is one.
func (h head) firstPlan(n int) (api.IndexPlan, bool) {
	if within(n, 1, api.IndexLines) {
		for p := range h.plans(n) {
			return p, true
		}
	}
	return api.IndexPlan{}, false
}
