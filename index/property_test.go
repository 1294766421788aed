package index_test

import (
	"math"
	"reflect"
	"slices"
	"testing"

	"octant/api"
	"octant/index"
)

// roomy returns a list with room behind it, so that an append to it would show.
func roomy(l []int) []int {
	big := make([]int, len(l), len(l)+4)
	copy(big, l)
	return big
}

// P1.5: no call changes an argument, nor what lies behind it.
func TestArgumentsAreRead(t *testing.T) {
	for _, c := range allCalls() {
		for _, n := range []int{7, 11, 12, 90} {
			h, stock := shopHead(), roomy(shopStock())
			h.Circles = roomy(h.Circles)
			c.do(h, stock, 1, n)
			if !slices.Equal(h.Circles, shopHead().Circles) || !slices.Equal(stock, shopStock()) {
				t.Errorf("%s for %d: %v, %v", c.name, n, h, stock)
			}
			if !slices.Equal(h.Circles[3:7], make([]int, 4)) || !slices.Equal(stock[4:8], make([]int, 4)) {
				t.Errorf("%s for %d writes behind its arguments", c.name, n)
			}
		}
	}
}

// P1.5: results share no memory with arguments, nor with each other; they stay when the arguments change.
func TestResultsAreNew(t *testing.T) {
	h := shopHead()
	plans, _ := index.Plans(h, 12)
	holes, _, _ := index.Cut(h, 0, 3)
	wantPlans, wantHoles := slices.Clone(plans), slices.Clone(holes)
	h.Circles[0], h.Circles[1], h.Circles[2] = 5, 6, 7
	if !slices.Equal(plans, wantPlans) || !slices.Equal(holes, wantHoles) {
		t.Errorf("changed with the head: %v, %v", plans, holes)
	}
	plans[0], holes[0] = api.IndexPlan{Circle: 9}, 9
	if again, _ := index.Plans(shopHead(), 12); !slices.Equal(again, wantPlans) {
		t.Errorf("Plans after a change of its result: %v", again)
	}
	if again, _, _ := index.Cut(shopHead(), 0, 3); !slices.Equal(again, wantHoles) {
		t.Errorf("Cut after a change of its result: %v", again)
	}
}

// P1: no call panics, and no result comes with an error.
func TestAnyArguments(t *testing.T) {
	numbers := []int{math.MinInt, -20001, -1, 0, 1, 2, 7, 2000, 2001, 20000, 20001, 100000, 100001, math.MaxInt}
	stocks := [][]int{nil, {}, {10}, {10, 200}, {0, 0}, {math.MaxInt, math.MaxInt}, {math.MinInt, -1}, shopStock(), make([]int, 11)}
	for _, h := range append(validHeads(), invalidHeads()...) {
		for _, c := range allCalls() {
			for i, n := range numbers {
				for j, stock := range stocks {
					r := c.do(h, stock, numbers[(i+j)%len(numbers)], n)
					if r.e != api.OK && !reflect.DeepEqual(r, result{e: r.e}) {
						t.Fatalf("%s with an error: %v", c.name, r)
					}
				}
			}
		}
	}
}

// P2: a call has the same result when it comes again, behind others.
func TestSameAgain(t *testing.T) {
	for _, c := range allCalls() {
		first := c.do(shopHead(), shopStock(), 2, 11)
		for _, other := range allCalls() {
			other.do(api.IndexHead{Teeth: 7, Circles: []int{2, 11}}, []int{10, 20}, 1, 77)
		}
		if again := c.do(shopHead(), shopStock(), 2, 11); !reflect.DeepEqual(first, again) {
			t.Errorf("%s: %v, then %v", c.name, first, again)
		}
	}
}

// P1.6: n moves by a plan, or by a compound one, turn the work just once.
func TestCircleCloses(t *testing.T) {
	var d dice
	plans, pairs := 0, 0
	for range 2000 {
		h, n := d.head(), d.from(1, 150)
		l, _ := index.Plans(h, n)
		for _, p := range l {
			holes := h.Circles[p.Circle]
			if n*(p.Turns*holes+p.Holes) != h.Teeth*holes || p.Holes < 0 || p.Holes >= holes {
				t.Fatalf("%v for %d does not close: %v", h, n, p)
			}
			plans++
		}
		p, e := index.Compound(h, n)
		if e != api.OK {
			continue
		}
		a, b := h.Circles[p.A], h.Circles[p.B]
		if n*(p.X*b+p.Y*a) != h.Teeth*a*b || p.A >= p.B {
			t.Fatalf("%v for %d does not close: %v", h, n, p)
		}
		pairs++
	}
	if plans < 500 || pairs < 200 {
		t.Errorf("only %d plans and %d compound plans", plans, pairs)
	}
}

// ratio returns what a train multiplies by, as a fraction.
func ratio(stock []int, w api.IndexTrain) (num, den int) {
	num, den = stock[w.A], stock[w.B]
	if w.C >= 0 {
		num, den = num*stock[w.C], den*stock[w.D]
	}
	return num, den
}

// P1.6: the turns of the crank and those of the plate, on or back, are together one turn of the work.
func TestDifferentialCloses(t *testing.T) {
	var d dice
	found := 0
	for range 3000 {
		h, stock, n := d.head(), d.stock(), d.from(1, 200)
		x, e := index.Differential(h, stock, n)
		if e != api.OK {
			continue
		}
		found++
		holes := h.Circles[x.Plan.Circle]
		move := x.Plan.Turns*holes + x.Plan.Holes // of the crank, in holes
		num, den := ratio(stock, x.Train)
		if !x.On {
			num = -num
		}
		if n*move*den+num*holes != h.Teeth*holes*den || x.On != (x.Lines > n) {
			t.Fatalf("%v with %v for %d does not close: %v", h, stock, n, x)
		}
	}
	if found < 100 {
		t.Errorf("only %d differentials", found)
	}
}

// P1.7: no hole is nearer, and what is engraved is just enough; it is 0 just if there is a plan on the circle.
func TestLine(t *testing.T) {
	var d dice
	for range 400 {
		h, n := d.head(), d.from(1, 300)
		circle := d.from(0, len(h.Circles)-1)
		round := h.Teeth * h.Circles[circle]
		l, engraved, e := index.Cut(h, circle, n)
		if e != api.OK || len(l) != n {
			t.Fatalf("Cut(%v, %d, %d): %v, %d", h, circle, n, l, e)
		}
		over := engraved == 0
		for k, p := range l {
			wrong := without(p*n - k*round)
			if wrong > without((p-1)*n-k*round) || wrong > without((p+1)*n-k*round) {
				t.Fatalf("%v, circle %d, %d lines: a hole is nearer to the line %d than %d", h, circle, n, k, p)
			}
			if wrong*api.IndexTurn > engraved*n*round {
				t.Fatalf("%v, circle %d, %d lines: the line %d errs by more than %d", h, circle, n, k, engraved)
			}
			over = over || wrong*api.IndexTurn > (engraved-1)*n*round
		}
		if !over {
			t.Fatalf("%v, circle %d, %d lines: no line errs by nearly %d", h, circle, n, engraved)
		}
		planned := slices.ContainsFunc(slowPlans(h, n), func(p api.IndexPlan) bool { return p.Circle == circle })
		if planned != (engraved == 0) {
			t.Fatalf("%v, circle %d, %d lines: a plan %v, engraved %d", h, circle, n, planned, engraved)
		}
	}
}

// P1.8: the head less one of its circles has no more plans, no better compound plan, and no better circle.
func TestMoreCircles(t *testing.T) {
	var d dice
	for range 500 {
		h, n := d.head(), d.from(1, 120)
		if len(h.Circles) < 2 {
			continue
		}
		at := d.from(0, len(h.Circles)-1)
		less := api.IndexHead{Teeth: h.Teeth, Circles: slices.Delete(slices.Clone(h.Circles), at, at+1)}
		more, _ := index.Plans(h, n)
		if fewer, _ := index.Plans(less, n); len(more) < len(fewer) {
			t.Fatalf("%v for %d has less plans than without the circle %d", h, n, at)
		}
		p, e := index.Compound(h, n)
		if q, f := index.Compound(less, n); f == api.OK && (e != api.OK || without(p.X)+without(p.Y) > without(q.X)+without(q.Y)) {
			t.Fatalf("%v for %d has a worse compound plan than without the circle %d", h, n, at)
		}
		if n > 40 || h.Teeth > 60 {
			continue
		}
		c, _, _ := index.Best(h, n)
		b, _, _ := index.Best(less, n)
		_, fault, _ := slowCut(h, c, n)
		if _, f, _ := slowCut(less, b, n); fault*less.Circles[b] > f*h.Circles[c] {
			t.Fatalf("%v for %d has a worse best circle than without the circle %d", h, n, at)
		}
	}
}

// P1.9: a train gives its ratio, with no wheel twice, and the inverse ratio has one with as many wheels.
func TestTrainsGiveTheirRatio(t *testing.T) {
	var d dice
	wheels := [5]int{}
	for range 3000 {
		stock, p, q := d.stock(), d.from(1, 20), d.from(1, 20)
		w, e := index.Train(stock, p, q)
		back, f := index.Train(stock, q, p)
		if e != f || (w.C < 0) != (back.C < 0) || (w.C < 0) != (w.D < 0) {
			t.Fatalf("%v for %d to %d: %v, %d; back %v, %d", stock, p, q, w, e, back, f)
		}
		if e != api.OK {
			wheels[0]++
			continue
		}
		used := []int{w.A, w.B, w.C, w.D}
		if w.C < 0 {
			used = used[:2]
		}
		wheels[len(used)]++
		slices.Sort(used)
		if num, den := ratio(stock, w); num*q != den*p || len(slices.Compact(slices.Clone(used))) != len(used) {
			t.Fatalf("%v for %d to %d: %v", stock, p, q, w)
		}
	}
	if wheels[0] < 100 || wheels[2] < 100 || wheels[4] < 100 {
		t.Errorf("too few of a kind: %v", wheels)
	}
}
