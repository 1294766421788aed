// Package index is layer 1: see shared/doc/01-index.md.
package index

import "octant/api"

// Check checks a head.
func Check(h api.IndexHead) api.Errno {
	if !within(h.Teeth, 1, api.IndexTeeth) || !within(len(h.Circles), 1, api.IndexCircles) {
		return api.ErrIndexHead
	}
	before := 1 // so that the first circle has at least two holes
	for _, holes := range h.Circles {
		if !within(holes, before+1, api.IndexHoles) {
			return api.ErrIndexHead
		}
		before = holes
	}
	return api.OK
}

// Plans returns all plans for some lines.
func Plans(h api.IndexHead, n int) ([]api.IndexPlan, api.Errno) {
	if e := checkLines(h, n, api.IndexLines); e != api.OK {
		return nil, e
	}
	var list []api.IndexPlan
	for p := range (head{h}).plans(n) {
		list = append(list, p)
	}
	if len(list) == 0 {
		return nil, api.ErrNone
	}
	return list[:len(list):len(list)], api.OK
}

// Compound returns the best compound plan for some lines.
func Compound(h api.IndexHead, n int) (api.IndexPair, api.Errno) {
	if e := checkLines(h, n, api.IndexLines); e != api.OK {
		return api.IndexPair{}, e
	}
	move, found := (head{h}).shortest(n)
	if !found {
		return api.IndexPair{}, api.ErrNone
	}
	return move.IndexPair, api.OK
}

// Cut returns the places of all lines on a circle, and what is engraved.
func Cut(h api.IndexHead, circle, n int) (holes []int, engraved int, e api.Errno) {
	if e := checkLines(h, n, api.IndexCut); e != api.OK {
		return nil, 0, e
	}
	if !within(circle, 0, len(h.Circles)-1) {
		return nil, 0, api.ErrIndexPlate
	}
	d := newDivision(head{h}, circle, n)
	return d.places(), d.engraved(), api.OK
}

// Best returns the best circle for some lines, and what is engraved.
func Best(h api.IndexHead, n int) (circle, engraved int, e api.Errno) {
	if e := checkLines(h, n, api.IndexCut); e != api.OK {
		return 0, 0, e
	}
	d := bestDivision(head{h}, n)
	return d.circle, d.engraved(), api.OK
}

// Train returns the first train of a stock for a ratio.
func Train(stock []int, p, q int) (api.IndexTrain, api.Errno) {
	if !isStock(stock) || !within(p, 1, api.IndexRatio) || !within(q, 1, api.IndexRatio) {
		return api.IndexTrain{}, api.ErrIndexStock
	}
	train := newRack(stock).train(p, q)
	if train == noTrain() {
		return api.IndexTrain{}, api.ErrNone
	}
	return train, api.OK
}

// Differential returns the differential for some lines.
func Differential(h api.IndexHead, stock []int, n int) (api.IndexDiff, api.Errno) {
	if e := checkLines(h, n, api.IndexCut); e != api.OK {
		return api.IndexDiff{}, e
	}
	if !isStock(stock) {
		return api.IndexDiff{}, api.ErrIndexStock
	}
	diff, found := (head{h}).differential(newRack(stock), n)
	if !found {
		return api.IndexDiff{}, api.ErrNone
	}
	return diff, api.OK
}

// checkLines checks a head, and then a number of lines.
func checkLines(h api.IndexHead, n, most int) api.Errno {
	if e := Check(h); e != api.OK {
		return e
	}
	if !within(n, 1, most) {
		return api.ErrIndexLines
	}
	return api.OK
}

// within reports whether a number is from low to high.
func within(x, low, high int) bool { return low <= x && x <= high }

// best returns the one than which none is better, of several the first one.
func best[T any](better func(a, b T) bool, first T, others ...T) T {
	for _, x := range others {
		if better(x, first) {
			first = x
		}
	}
	return first
}
