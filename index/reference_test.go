package index_test

import (
	"octant/api"
	"octant/index"
)

// The functions of this file say slowly what the document says, to check the package against.

// dice is a row of numbers that look as if by chance, the same ones each time.
type dice uint64

// from returns a number from low to high.
func (d *dice) from(low, high int) int {
	*d = *d*6364136223846793005 + 1442695040888963407
	return low + int(uint64(*d)>>33)%(high-low+1)
}

// head returns a valid head, mostly a small one.
func (d *dice) head() api.IndexHead {
	teeth, circles, holes := 60, 4, 30
	if d.from(0, 3) == 0 {
		teeth, circles, holes = api.IndexTeeth, api.IndexCircles, api.IndexHoles
	}
	used := map[int]bool{}
	for range d.from(1, circles) {
		used[d.from(2, holes)] = true
	}
	h := api.IndexHead{Teeth: d.from(1, teeth)}
	for x := 2; x <= holes; x++ {
		if used[x] {
			h.Circles = append(h.Circles, x)
		}
	}
	return h
}

// stock returns a valid stock, often with wheels that are the same.
func (d *dice) stock() []int {
	l := make([]int, d.from(2, api.IndexStock))
	for i := range l {
		if l[i] = 5 * d.from(2, 12); d.from(0, 4) == 0 {
			l[i] = d.from(10, 200)
		}
	}
	return l
}

func slowPlans(h api.IndexHead, n int) []api.IndexPlan {
	var l []api.IndexPlan
	for i, x := range h.Circles {
		if h.Teeth*x%n == 0 {
			l = append(l, api.IndexPlan{Circle: i, Turns: h.Teeth * x / n / x, Holes: h.Teeth * x / n % x})
		}
	}
	return l
}

func without(sign int) int {
	if sign < 0 {
		return -sign
	}
	return sign
}

// slowCompounds returns all compound plans by A, then B, then X.
func slowCompounds(h api.IndexHead, n int) []api.IndexPair {
	var l []api.IndexPair
	for i, a := range h.Circles {
		for j, b := range h.Circles {
			for x := -2000; x <= 2000 && i < j; x++ {
				left := h.Teeth*a*b - n*x*b
				if y := left / (n * a); left%(n*a) == 0 && without(y) <= 2000 {
					l = append(l, api.IndexPair{A: i, B: j, X: x, Y: y})
				}
			}
		}
	}
	return l
}

func slowCompound(h api.IndexHead, n int) (api.IndexPair, api.Errno) {
	l := slowCompounds(h, n)
	if len(l) == 0 {
		return api.IndexPair{}, api.ErrNone
	}
	first := l[0]
	for _, p := range l {
		if without(p.X)+without(p.Y) < without(first.X)+without(first.Y) {
			first = p
		}
	}
	return first, api.OK
}

// slowPlace tries all holes, from the first one on.
func slowPlace(round, n, k int) int {
	best := 0
	for p := 0; p <= round; p++ {
		if without(p*n-k*round) < without(best*n-k*round) {
			best = p
		}
	}
	return best
}

// slowCut returns the places, the fault, and what is engraved.
func slowCut(h api.IndexHead, circle, n int) (holes []int, fault, engraved int) {
	round := h.Teeth * h.Circles[circle]
	for k := range n {
		p := slowPlace(round, n, k)
		holes = append(holes, p)
		fault = max(fault, without(p*n-k*round))
	}
	for engraved*n*round < fault*129600000 {
		engraved += max(1, (fault*129600000-engraved*n*round)/(n*round))
	}
	return holes, fault, engraved
}

func slowBest(h api.IndexHead, n int) (circle, engraved int) {
	_, fault, engraved := slowCut(h, 0, n)
	for i := range h.Circles {
		_, f, e := slowCut(h, i, n)
		if f*h.Circles[circle] < fault*h.Circles[i] {
			circle, fault, engraved = i, f, e
		}
	}
	return circle, engraved
}

func slowTrain(l []int, p, q int) (api.IndexTrain, api.Errno) {
	for a := range l {
		for b := range l {
			if a != b && l[a]*q == l[b]*p {
				return api.IndexTrain{A: a, B: b, C: -1, D: -1}, api.OK
			}
		}
	}
	for a := range l {
		for b := range l {
			for c := range l {
				for d := range l {
					if a != b && a != c && a != d && b != c && b != d && c != d && l[a]*l[c]*q == l[b]*l[d]*p {
						return api.IndexTrain{A: a, B: b, C: c, D: d}, api.OK
					}
				}
			}
		}
	}
	return api.IndexTrain{}, api.ErrNone
}

func slowDifferential(h api.IndexHead, stock []int, n int) (api.IndexDiff, api.Errno) {
	for aside := 1; aside <= 20; aside++ {
		for _, m := range []int{n - aside, n + aside} {
			if m < 1 {
				continue
			}
			plans := slowPlans(h, m)
			train, e := slowTrain(stock, h.Teeth*aside, m)
			if len(plans) > 0 && e == api.OK {
				return api.IndexDiff{Lines: m, Plan: plans[0], Train: train, On: m > n}, api.OK
			}
		}
	}
	return api.IndexDiff{}, api.ErrNone
}

// call is a call of the package, all of whose results are in one value.
type call struct {
	name string
	do   func(h api.IndexHead, stock []int, x, n int) result
}

// result has a field for each kind of result.
type result struct {
	plans            []api.IndexPlan
	pair             api.IndexPair
	holes            []int
	circle, engraved int
	train            api.IndexTrain
	diff             api.IndexDiff
	e                api.Errno
}

// headCalls returns the calls that have a head.
func headCalls() []call {
	return []call{
		{"Check", func(h api.IndexHead, stock []int, x, n int) (r result) {
			r.e = index.Check(h)
			return r
		}},
		{"Plans", func(h api.IndexHead, stock []int, x, n int) (r result) {
			r.plans, r.e = index.Plans(h, n)
			return r
		}},
		{"Compound", func(h api.IndexHead, stock []int, x, n int) (r result) {
			r.pair, r.e = index.Compound(h, n)
			return r
		}},
		{"Cut", func(h api.IndexHead, stock []int, x, n int) (r result) {
			r.holes, r.engraved, r.e = index.Cut(h, x, n)
			return r
		}},
		{"Best", func(h api.IndexHead, stock []int, x, n int) (r result) {
			r.circle, r.engraved, r.e = index.Best(h, n)
			return r
		}},
		{"Differential", func(h api.IndexHead, stock []int, x, n int) (r result) {
			r.diff, r.e = index.Differential(h, stock, n)
			return r
		}},
	}
}

// allCalls returns the calls of all functions.
func allCalls() []call {
	return append(headCalls(), call{"Train", func(h api.IndexHead, stock []int, x, n int) (r result) {
		r.train, r.e = index.Train(stock, x, n)
		return r
	}})
}
