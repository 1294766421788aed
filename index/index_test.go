package index_test

import (
	"math"
	"reflect"
	"slices"
	"testing"

	"octant/api"
	"octant/index"
)

// shopHead and shopStock are those of the document's examples.
func shopHead() api.IndexHead { return api.IndexHead{Teeth: 40, Circles: []int{15, 18, 21}} }

func shopStock() []int { return []int{20, 30, 40, 60} }

func twelve() []int { return []int{2, 3, 4, 5, 6, 7, 8, 9, 10, 11, 12, 13} }

func validHeads() []api.IndexHead {
	return []api.IndexHead{
		shopHead(),
		{Teeth: 1, Circles: []int{2}},
		{Teeth: 400, Circles: []int{200}},
		{Teeth: 1, Circles: []int{2, 3, 199, 200}},
		{Teeth: 40, Circles: twelve()},
	}
}

func invalidHeads() []api.IndexHead {
	return []api.IndexHead{
		{},
		{Teeth: 0, Circles: []int{15}},
		{Teeth: -1, Circles: []int{15}},
		{Teeth: 401, Circles: []int{15}},
		{Teeth: math.MaxInt, Circles: []int{15}},
		{Teeth: math.MinInt, Circles: []int{15}},
		{Teeth: 40},
		{Teeth: 40, Circles: []int{}},
		{Teeth: 40, Circles: append(twelve(), 14)},
		{Teeth: 40, Circles: []int{1}},
		{Teeth: 40, Circles: []int{0, 15}},
		{Teeth: 40, Circles: []int{-15, 15}},
		{Teeth: 40, Circles: []int{math.MinInt, 15}},
		{Teeth: 40, Circles: []int{15, 201}},
		{Teeth: 40, Circles: []int{15, math.MaxInt}},
		{Teeth: 40, Circles: []int{15, 15}},
		{Teeth: 40, Circles: []int{15, 18, 18}},
		{Teeth: 40, Circles: []int{15, 21, 18}},
		{Teeth: 40, Circles: []int{18, 15, 21}},
	}
}

// P1.1
func TestCheck(t *testing.T) {
	for _, h := range validHeads() {
		if e := index.Check(h); e != api.OK {
			t.Errorf("Check(%v): %d", h, e)
		}
	}
	for _, h := range invalidHeads() {
		if e := index.Check(h); e != api.ErrIndexHead {
			t.Errorf("Check(%v): %d", h, e)
		}
	}
}

// P1.1: the error of the head comes first, with all other arguments wrong or right, and no result comes with it.
func TestHeadFirst(t *testing.T) {
	for _, h := range invalidHeads() {
		for _, c := range headCalls() {
			for _, n := range []int{0, 1, 7, 20001} {
				for _, stock := range [][]int{nil, shopStock()} {
					if r := c.do(h, stock, 0, n); !reflect.DeepEqual(r, result{e: api.ErrIndexHead}) {
						t.Errorf("%s with %v: %v", c.name, h, r)
					}
				}
			}
		}
	}
}

// P1.2
func TestPlans(t *testing.T) {
	wide := api.IndexHead{Teeth: 400, Circles: []int{50, 199, 200}}
	for _, x := range []struct {
		h    api.IndexHead
		n    int
		want []api.IndexPlan
		e    api.Errno
	}{
		{shopHead(), 12, []api.IndexPlan{{Circle: 0, Turns: 3, Holes: 5}, {Circle: 1, Turns: 3, Holes: 6}, {Circle: 2, Turns: 3, Holes: 7}}, api.OK},
		{shopHead(), 28, []api.IndexPlan{{Circle: 2, Turns: 1, Holes: 9}}, api.OK},
		{shopHead(), 1, []api.IndexPlan{{Circle: 0, Turns: 40}, {Circle: 1, Turns: 40}, {Circle: 2, Turns: 40}}, api.OK},
		{shopHead(), 600, []api.IndexPlan{{Circle: 0, Holes: 1}}, api.OK},
		{shopHead(), 60, []api.IndexPlan{{Circle: 0, Holes: 10}, {Circle: 1, Holes: 12}, {Circle: 2, Holes: 14}}, api.OK},
		{shopHead(), 11, nil, api.ErrNone},
		{shopHead(), 601, nil, api.ErrNone},
		{wide, 20000, []api.IndexPlan{{Circle: 0, Holes: 1}, {Circle: 2, Holes: 4}}, api.OK},
		{wide, 20001, nil, api.ErrIndexLines},
		{wide, math.MaxInt, nil, api.ErrIndexLines},
		{wide, 0, nil, api.ErrIndexLines},
		{wide, -1, nil, api.ErrIndexLines},
		{wide, -40, nil, api.ErrIndexLines},
		{wide, math.MinInt, nil, api.ErrIndexLines},
	} {
		if l, e := index.Plans(x.h, x.n); !slices.Equal(l, x.want) || e != x.e {
			t.Errorf("Plans(%v, %d): %v, %d", x.h, x.n, l, e)
		}
	}
}

// P1.2
func TestPlansAll(t *testing.T) {
	var d dice
	for range 300 {
		h := d.head()
		for n := 1; n <= 200; n++ {
			l, e := index.Plans(h, n)
			if want := slowPlans(h, n); !slices.Equal(l, want) || (e == api.OK) != (len(want) > 0) || e != api.OK && e != api.ErrNone {
				t.Fatalf("Plans(%v, %d): %v, %d", h, n, l, e)
			}
		}
	}
}

// P1.2
func TestCompound(t *testing.T) {
	for _, x := range []struct {
		h    api.IndexHead
		n    int
		want api.IndexPair
		e    api.Errno
	}{
		{shopHead(), 90, api.IndexPair{A: 0, B: 1, X: 5, Y: 2}, api.OK},
		{shopHead(), 11, api.IndexPair{}, api.ErrNone},
		{api.IndexHead{Teeth: 40, Circles: []int{15}}, 1, api.IndexPair{}, api.ErrNone},
		// backwards on either circle, which counts as much as on
		{api.IndexHead{Teeth: 13, Circles: []int{5, 7}}, 35, api.IndexPair{A: 0, B: 1, X: -1, Y: 4}, api.OK},
		{api.IndexHead{Teeth: 13, Circles: []int{7, 10}}, 70, api.IndexPair{A: 0, B: 1, X: 2, Y: -1}, api.OK},
		// of several the first one by A, by B, and by X
		{api.IndexHead{Teeth: 1, Circles: []int{2, 3, 4}}, 3, api.IndexPair{A: 0, B: 1, X: 0, Y: 1}, api.OK},
		{api.IndexHead{Teeth: 1, Circles: []int{2, 3, 4}}, 2, api.IndexPair{A: 0, B: 1, X: 1, Y: 0}, api.OK},
		{api.IndexHead{Teeth: 1, Circles: []int{2, 4, 6}}, 3, api.IndexPair{A: 0, B: 2, X: 0, Y: 2}, api.OK},
		{api.IndexHead{Teeth: 1, Circles: []int{2, 5, 15}}, 3, api.IndexPair{A: 1, B: 2, X: 1, Y: 2}, api.OK},
		// just 2000 holes, and 400 turns that would be 2400 holes
		{api.IndexHead{Teeth: 400, Circles: []int{5, 200}}, 1, api.IndexPair{A: 0, B: 1, X: 2000, Y: 0}, api.OK},
		{api.IndexHead{Teeth: 400, Circles: []int{6, 30}}, 1, api.IndexPair{A: 0, B: 1, X: 2000, Y: 2000}, api.OK},
		{api.IndexHead{Teeth: 400, Circles: []int{6, 7}}, 1, api.IndexPair{A: 0, B: 1, X: 1998, Y: 469}, api.OK},
		{api.IndexHead{Teeth: 400, Circles: []int{6, 31}}, 1, api.IndexPair{}, api.ErrNone},
		{api.IndexHead{Teeth: 400, Circles: []int{100, 200}}, 20000, api.IndexPair{A: 0, B: 1, X: 2, Y: 0}, api.OK},
		{api.IndexHead{Teeth: 400, Circles: []int{100, 200}}, 20001, api.IndexPair{}, api.ErrIndexLines},
		{shopHead(), 0, api.IndexPair{}, api.ErrIndexLines},
		{shopHead(), -1, api.IndexPair{}, api.ErrIndexLines},
		{shopHead(), math.MaxInt, api.IndexPair{}, api.ErrIndexLines},
		{shopHead(), math.MinInt, api.IndexPair{}, api.ErrIndexLines},
	} {
		if p, e := index.Compound(x.h, x.n); p != x.want || e != x.e {
			t.Errorf("Compound(%v, %d): %v, %d", x.h, x.n, p, e)
		}
	}
}

// P1.2
func TestCompoundAll(t *testing.T) {
	var d dice
	for range 400 {
		h, n := d.head(), d.from(1, 100)
		p, e := index.Compound(h, n)
		if want, f := slowCompound(h, n); p != want || e != f {
			t.Fatalf("Compound(%v, %d): %v, %d, not %v, %d", h, n, p, e, want, f)
		}
	}
}

// P1.3
func TestCut(t *testing.T) {
	one := api.IndexHead{Teeth: 1, Circles: []int{2, 3}}
	for _, x := range []struct {
		h         api.IndexHead
		circle, n int
		want      []int
		engraved  int
		e         api.Errno
	}{
		{shopHead(), 0, 7, []int{0, 86, 171, 257, 343, 429, 514}, 92572, api.OK},
		{shopHead(), 2, 7, []int{0, 120, 240, 360, 480, 600, 720}, 0, api.OK},
		{one, 1, 1, []int{0}, 0, api.OK},
		{one, 1, 2, []int{0, 1}, 21600000, api.OK}, // just between two holes: the lower one
		{one, 0, 3, []int{0, 1, 1}, 21600000, api.OK},
		{one, 0, 5, []int{0, 0, 1, 1, 2}, 25920000, api.OK}, // the last line is at the whole turn
		{one, 2, 7, nil, 0, api.ErrIndexPlate},
		{shopHead(), 3, 7, nil, 0, api.ErrIndexPlate},
		{shopHead(), -1, 7, nil, 0, api.ErrIndexPlate},
		{shopHead(), math.MaxInt, 7, nil, 0, api.ErrIndexPlate},
		{shopHead(), math.MinInt, 7, nil, 0, api.ErrIndexPlate},
		{shopHead(), 3, 0, nil, 0, api.ErrIndexLines},
		{shopHead(), 3, 2001, nil, 0, api.ErrIndexLines},
		{shopHead(), 0, -1, nil, 0, api.ErrIndexLines},
		{shopHead(), 0, 2001, nil, 0, api.ErrIndexLines},
		{shopHead(), 0, math.MaxInt, nil, 0, api.ErrIndexLines},
		{shopHead(), 0, math.MinInt, nil, 0, api.ErrIndexLines},
	} {
		if l, n, e := index.Cut(x.h, x.circle, x.n); !slices.Equal(l, x.want) || n != x.engraved || e != x.e {
			t.Errorf("Cut(%v, %d, %d): %v, %d, %d", x.h, x.circle, x.n, l, n, e)
		}
	}
}

// P1.3: as many lines as there can be, of which every other one is just between two holes.
func TestCutMost(t *testing.T) {
	h := api.IndexHead{Teeth: 5, Circles: []int{200}}
	l, engraved, e := index.Cut(h, 0, api.IndexCut)
	if len(l) != 2000 || engraved != 64800 || e != api.OK {
		t.Fatalf("Cut for 2000: %d lines, %d, %d", len(l), engraved, e)
	}
	for k, p := range l {
		if p != k/2 {
			t.Fatalf("the line %d: %d", k, p)
		}
	}
	if c, engraved, e := index.Best(h, api.IndexCut); c != 0 || engraved != 64800 || e != api.OK {
		t.Errorf("Best for 2000: %d, %d, %d", c, engraved, e)
	}
}

// P1.3
func TestBest(t *testing.T) {
	one := api.IndexHead{Teeth: 1, Circles: []int{2, 3}}
	for _, x := range []struct {
		h                   api.IndexHead
		n, circle, engraved int
		e                   api.Errno
	}{
		{shopHead(), 7, 2, 0, api.OK},
		{shopHead(), 11, 2, 70130, api.OK},
		{shopHead(), 12, 0, 0, api.OK}, // each circle has a plan: the first one
		{one, 1, 0, 0, api.OK},
		{one, 3, 1, 0, api.OK},
		{one, 4, 1, 21600000, api.OK},
		{one, 5, 1, 17280000, api.OK}, // the same fault, but of less holes it is more
		{one, 6, 0, 21600000, api.OK}, // 2 of 2 holes are as much as 3 of 3: the first one
		{api.IndexHead{Teeth: 1, Circles: []int{4, 8}}, 3, 1, 5400000, api.OK},
		{api.IndexHead{Teeth: 1, Circles: []int{3, 6}}, 4, 1, 10800000, api.OK},
		{api.IndexHead{Teeth: 1, Circles: []int{5, 7}}, 15, 0, 8640000, api.OK},
		{shopHead(), 0, 0, 0, api.ErrIndexLines},
		{shopHead(), -1, 0, 0, api.ErrIndexLines},
		{shopHead(), 2001, 0, 0, api.ErrIndexLines},
		{shopHead(), math.MaxInt, 0, 0, api.ErrIndexLines},
		{shopHead(), math.MinInt, 0, 0, api.ErrIndexLines},
	} {
		if c, n, e := index.Best(x.h, x.n); c != x.circle || n != x.engraved || e != x.e {
			t.Errorf("Best(%v, %d): %d, %d, %d", x.h, x.n, c, n, e)
		}
	}
}

// P1.3
func TestCutAll(t *testing.T) {
	var d dice
	for range 250 {
		h, n := d.head(), d.from(1, 60)
		if h.Teeth > 60 {
			h.Teeth = d.from(1, 8)
		}
		for i := range h.Circles {
			l, engraved, e := index.Cut(h, i, n)
			if want, _, x := slowCut(h, i, n); !slices.Equal(l, want) || engraved != x || e != api.OK {
				t.Fatalf("Cut(%v, %d, %d): %v, %d, %d, not %v, %d", h, i, n, l, engraved, e, want, x)
			}
		}
		c, engraved, e := index.Best(h, n)
		if want, x := slowBest(h, n); c != want || engraved != x || e != api.OK {
			t.Fatalf("Best(%v, %d): %d, %d, %d, not %d, %d", h, n, c, engraved, e, want, x)
		}
	}
}

// P1.4
func TestTrain(t *testing.T) {
	ten := []int{10, 20, 30, 40, 50, 60, 70, 80, 90, 200}
	two := func(a, b int) api.IndexTrain { return api.IndexTrain{A: a, B: b, C: -1, D: -1} }
	for _, x := range []struct {
		stock []int
		p, q  int
		want  api.IndexTrain
		e     api.Errno
	}{
		{shopStock(), 3, 2, two(1, 0), api.OK},
		{shopStock(), 2, 3, two(0, 1), api.OK},
		{shopStock(), 1, 2, two(0, 2), api.OK},
		{shopStock(), 50000, 100000, two(0, 2), api.OK},
		{shopStock(), 1, 4, api.IndexTrain{A: 0, B: 2, C: 1, D: 3}, api.OK},
		{shopStock(), 4, 1, api.IndexTrain{A: 2, B: 0, C: 3, D: 1}, api.OK},
		{shopStock(), 1, 1, api.IndexTrain{A: 0, B: 1, C: 3, D: 2}, api.OK}, // no wheel drives itself
		{shopStock(), 9, 2, api.IndexTrain{}, api.ErrNone},
		{shopStock(), 9, 4, api.IndexTrain{A: 1, B: 0, C: 3, D: 2}, api.OK},
		{[]int{20, 30, 40, 50}, 9, 4, api.IndexTrain{}, api.ErrNone}, // 30 and 30 to 20 and 20 would need two of each
		{[]int{20, 30}, 1, 1, api.IndexTrain{}, api.ErrNone},
		{[]int{20, 30, 40}, 8, 9, api.IndexTrain{}, api.ErrNone},
		{[]int{20, 20}, 7, 7, two(0, 1), api.OK},
		{[]int{20, 30, 20, 30}, 9, 4, api.IndexTrain{A: 1, B: 0, C: 3, D: 2}, api.OK},
		{[]int{30, 20, 20, 30}, 3, 2, two(0, 1), api.OK},
		{[]int{40, 20, 20, 30, 30}, 4, 3, two(0, 3), api.OK}, // of those with the same teeth the first one
		{ten, 1, 20, two(0, 9), api.OK},
		{ten, 1, 100000, api.IndexTrain{}, api.ErrNone},
		{ten, 100000, 100000, api.IndexTrain{A: 0, B: 1, C: 5, D: 2}, api.OK},
		{append(ten, 100), 1, 20, api.IndexTrain{}, api.ErrIndexStock},
		{[]int{20}, 1, 1, api.IndexTrain{}, api.ErrIndexStock},
		{nil, 1, 1, api.IndexTrain{}, api.ErrIndexStock},
		{[]int{}, 1, 1, api.IndexTrain{}, api.ErrIndexStock},
		{[]int{10, 9}, 1, 1, api.IndexTrain{}, api.ErrIndexStock},
		{[]int{201, 10}, 1, 1, api.IndexTrain{}, api.ErrIndexStock},
		{[]int{10, 0}, 1, 1, api.IndexTrain{}, api.ErrIndexStock},
		{[]int{10, -10}, 1, 1, api.IndexTrain{}, api.ErrIndexStock},
		{[]int{10, math.MaxInt}, 1, 1, api.IndexTrain{}, api.ErrIndexStock},
		{[]int{10, math.MinInt}, 1, 1, api.IndexTrain{}, api.ErrIndexStock},
		{shopStock(), 0, 1, api.IndexTrain{}, api.ErrIndexStock},
		{shopStock(), 1, 0, api.IndexTrain{}, api.ErrIndexStock},
		{shopStock(), -3, -2, api.IndexTrain{}, api.ErrIndexStock},
		{shopStock(), 100001, 1, api.IndexTrain{}, api.ErrIndexStock},
		{shopStock(), 1, 100001, api.IndexTrain{}, api.ErrIndexStock},
		{shopStock(), math.MaxInt, 1, api.IndexTrain{}, api.ErrIndexStock},
		{shopStock(), 1, math.MinInt, api.IndexTrain{}, api.ErrIndexStock},
	} {
		if w, e := index.Train(x.stock, x.p, x.q); w != x.want || e != x.e {
			t.Errorf("Train(%v, %d, %d): %v, %d", x.stock, x.p, x.q, w, e)
		}
	}
}

// P1.4
func TestTrainAll(t *testing.T) {
	var d dice
	for range 3000 {
		l := d.stock()
		p, q := d.from(1, 12), d.from(1, 12)
		if d.from(0, 2) == 0 { // a ratio that four wheels have, if there are four
			p, q = l[0]*l[len(l)/2], l[len(l)-1]*l[1]
		}
		w, e := index.Train(l, p, q)
		if want, f := slowTrain(l, p, q); w != want || e != f {
			t.Fatalf("Train(%v, %d, %d): %v, %d, not %v, %d", l, p, q, w, e, want, f)
		}
	}
}

// P1.4
func TestDifferential(t *testing.T) {
	for _, x := range []struct {
		h     api.IndexHead
		stock []int
		n     int
		want  api.IndexDiff
		e     api.Errno
	}{
		{shopHead(), shopStock(), 11, api.IndexDiff{Lines: 10, Plan: api.IndexPlan{Turns: 4}, Train: api.IndexTrain{A: 2, B: 0, C: 3, D: 1}}, api.OK},
		{shopHead(), shopStock(), 12, api.IndexDiff{}, api.ErrNone},
		// 20 lines aside at most, on and back
		{shopHead(), shopStock(), 580, api.IndexDiff{Lines: 600, Plan: api.IndexPlan{Holes: 1}, Train: api.IndexTrain{A: 2, B: 1, C: -1, D: -1}, On: true}, api.OK},
		{shopHead(), shopStock(), 620, api.IndexDiff{Lines: 600, Plan: api.IndexPlan{Holes: 1}, Train: api.IndexTrain{A: 2, B: 1, C: -1, D: -1}}, api.OK},
		{shopHead(), []int{56, 40}, 621, api.IndexDiff{}, api.ErrNone},
		// 8 lines and 10 lines would both do: the lower ones come first; and there are no 0 lines
		{shopHead(), []int{20, 30, 40, 60, 24}, 9, api.IndexDiff{Lines: 8, Plan: api.IndexPlan{Turns: 5}, Train: api.IndexTrain{A: 2, B: 0, C: 3, D: 4}}, api.OK},
		{shopHead(), []int{10, 200}, 1, api.IndexDiff{Lines: 2, Plan: api.IndexPlan{Turns: 20}, Train: api.IndexTrain{A: 1, B: 0, C: -1, D: -1}, On: true}, api.OK},
		{shopHead(), []int{10, 20, 30, 40, 50, 60, 70, 80, 90, 100}, 2, api.IndexDiff{Lines: 1, Plan: api.IndexPlan{Turns: 40}, Train: api.IndexTrain{A: 7, B: 0, C: 9, D: 1}}, api.OK},
		// as many lines as there can be, and 20 more
		{api.IndexHead{Teeth: 400, Circles: []int{101}}, []int{200, 101, 20, 10}, 2000, api.IndexDiff{Lines: 2020, Plan: api.IndexPlan{Holes: 20}, Train: api.IndexTrain{A: 0, B: 1, C: 2, D: 3}, On: true}, api.OK},
		{shopHead(), shopStock(), 2000, api.IndexDiff{}, api.ErrNone},
		{shopHead(), nil, 0, api.IndexDiff{}, api.ErrIndexLines},
		{shopHead(), nil, -1, api.IndexDiff{}, api.ErrIndexLines},
		{shopHead(), nil, 2001, api.IndexDiff{}, api.ErrIndexLines},
		{shopHead(), shopStock(), math.MaxInt, api.IndexDiff{}, api.ErrIndexLines},
		{shopHead(), shopStock(), math.MinInt, api.IndexDiff{}, api.ErrIndexLines},
		{shopHead(), nil, 11, api.IndexDiff{}, api.ErrIndexStock},
		{shopHead(), []int{20}, 11, api.IndexDiff{}, api.ErrIndexStock},
		{shopHead(), []int{20, 9}, 12, api.IndexDiff{}, api.ErrIndexStock},
	} {
		if d, e := index.Differential(x.h, x.stock, x.n); d != x.want || e != x.e {
			t.Errorf("Differential(%v, %v, %d): %v, %d", x.h, x.stock, x.n, d, e)
		}
	}
}

// P1.4
func TestDifferentialAll(t *testing.T) {
	var d dice
	for i := range 2500 {
		h, l, n := d.head(), d.stock(), d.from(1, 300)
		if i%10 == 0 {
			n = d.from(1, 2000)
		}
		x, e := index.Differential(h, l, n)
		if want, f := slowDifferential(h, l, n); x != want || e != f {
			t.Fatalf("Differential(%v, %v, %d): %v, %d, not %v, %d", h, l, n, x, e, want, f)
		}
	}
}
