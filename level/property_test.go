package level_test

import (
	"math"
	"reflect"
	"slices"
	"testing"

	"octant/api"
	"octant/level"
)

// roomy returns a list with room behind it, so that an append to it would show.
func roomy[T any](l []T) []T {
	big := make([]T, len(l), len(l)+4)
	copy(big, l)
	return big
}

// shopInput returns an input with which each call does something.
func shopInput(readings []api.LevelReading) input {
	return input{
		vial: shopVial(), readings: roomy(readings), truth: api.LevelTruth{Value: 50, Zero: 40, Tilt: 250},
		tilt: to(200, 312), worth: 20, bound: 60,
		stock: roomy([]api.LevelVial{shopVial(), otherVial()}), prices: roomy([]int{30, 40}), wish: api.LevelWish{Range: 600, Fault: 300},
	}
}

// behind returns what lies behind the lists of an input.
func behind(in input) []any {
	return []any{in.readings[:cap(in.readings)], in.stock[:cap(in.stock)], in.prices[:cap(in.prices)]}
}

// P3.8: no call changes an argument, nor what lies behind it.
func TestArgumentsAreRead(t *testing.T) {
	for _, c := range allCalls() {
		for _, readings := range [][]api.LevelReading{shopReadings()[:1], shopReadings()[:2], shopReadings()} {
			in, want := shopInput(readings), shopInput(readings)
			c.do(in)
			if !reflect.DeepEqual(behind(in), behind(want)) {
				t.Errorf("%s changes its arguments: %v", c.name, in)
			}
		}
	}
}

// P3.8: results share no memory with arguments, nor with what another call returns.
func TestResultsAreNew(t *testing.T) {
	for _, c := range allCalls() {
		for _, readings := range [][]api.LevelReading{shopReadings()[:2], shopReadings()} {
			in := shopInput(readings)
			r, want := c.do(in), c.do(shopInput(readings))
			for i := range in.readings {
				in.readings[i] = api.LevelReading{Left: -77}
			}
			for i := range in.stock {
				in.stock[i], in.prices[i] = api.LevelVial{Marks: -77}, -77
			}
			if !reflect.DeepEqual(r, want) {
				t.Errorf("%s: its result changes with its arguments: %v, not %v", c.name, r, want)
			}
			for i := range r.list {
				r.list[i] = -77
			}
			if again := c.do(shopInput(readings)); !reflect.DeepEqual(again, want) {
				t.Errorf("%s: another result after a change of the first one: %v, not %v", c.name, again, want)
			}
		}
	}
}

// P1: no call panics, and no result comes with an error.
func TestAnyArguments(t *testing.T) {
	numbers := []int{math.MinInt, -1000001, -8, -1, 0, 1, 2, 8, 9, 10, 18, 20, 40, 80, 200, 501, 1000000, math.MaxInt}
	var d dice
	number := func() int { return numbers[d.from(0, len(numbers)-1)] }
	span := func() api.Span { return to(number(), number()) }
	vials := append(validVials(), invalidVials()...)
	for range 4000 {
		in := shopInput(shopReadings())
		if d.from(0, 1) == 0 {
			in.vial = vials[d.from(0, len(vials)-1)]
		}
		in.readings = append(in.readings, api.LevelReading{Left: number(), Right: number(), Turned: d.from(0, 1) == 0})[d.from(0, 4):]
		in.truth = api.LevelTruth{Value: number(), Zero: number(), Tilt: number()}
		in.tilt, in.worth, in.bound = span(), number(), number()
		in.stock = append(in.stock, api.LevelVial{Marks: number(), Length: span(), Value: span(), Zero: span(), Wrong: number()})[d.from(0, 3):]
		in.prices = append(in.prices, number())[d.from(0, 3):]
		in.wish = api.LevelWish{Range: number(), Fault: number()}
		for _, c := range allCalls() {
			if r := c.do(in); r.e != api.OK && !reflect.DeepEqual(r, result{e: r.e}) {
				t.Fatalf("%s with an error: %v", c.name, r)
			}
		}
	}
}

// P2: a call has the same result when it comes again, behind others; a nil list is as an empty one (R3).
func TestSameAgain(t *testing.T) {
	for _, c := range allCalls() {
		first := c.do(shopInput(shopReadings()))
		for _, other := range allCalls() {
			other.do(shopInput(shopReadings()[:1]))
		}
		if again := c.do(shopInput(shopReadings())); !reflect.DeepEqual(first, again) {
			t.Errorf("%s: %v, then %v", c.name, first, again)
		}
		for _, v := range []api.LevelVial{{}, shopVial()} {
			none := c.do(input{vial: v})
			empty := c.do(input{vial: v, readings: []api.LevelReading{}, stock: []api.LevelVial{}, prices: []int{}})
			if !reflect.DeepEqual(none, empty) {
				t.Errorf("%s: %v with nil lists, %v with empty ones", c.name, none, empty)
			}
		}
	}
}

// P3.9: the tilt and the zero of a truth lie between what Tilt returns, if all readings can be so in it.
func TestBubble(t *testing.T) {
	var d dice
	both := 0
	for range 3000 {
		v := d.large()
		truth := d.truth(v, d.from(-v.Marks/3, v.Marks/3))
		l := d.readings(v, truth, api.LevelReadings, 0)
		if len(l) == 0 {
			continue
		}
		if yes, e := level.Can(v, l, truth); !yes || e != api.OK {
			t.Fatalf("Can(%v, %v, %v): %v, %d", v, l, truth, yes, e)
		}
		tilt, zero, e := level.Tilt(v, l)
		if e != api.OK || truth.Tilt < tilt.Low || truth.Tilt > tilt.High || truth.Zero < zero.Low || truth.Zero > zero.High {
			t.Fatalf("Tilt(%v, %v): %v, %v, %d; %v", v, l, tilt, zero, e, truth)
		}
		if list, e := level.False(v, l); list != nil || e != api.ErrNone {
			t.Fatalf("False(%v, %v): %v, %d", v, l, list, e)
		}
		if l[0].Turned != l[len(l)-1].Turned {
			both++
		}
	}
	if both < 500 {
		t.Errorf("only %d with readings of both kinds", both)
	}
}

// P3.9: each end of both spans is so in some truth, and no tilt beside them is.
func TestEnds(t *testing.T) {
	var d dice
	for range 300 {
		v := d.large()
		l := d.readings(v, d.truth(v, d.from(-v.Marks/3, v.Marks/3)), 4, 0)
		if len(l) == 0 {
			continue
		}
		tilt, zero, e := level.Tilt(v, l)
		can := func(value, zero, tilt int) bool {
			yes, e := level.Can(v, l, api.LevelTruth{Value: value, Zero: zero, Tilt: tilt})
			return yes && e == api.OK
		}
		some := func(tilt int) bool {
			for value := v.Value.Low; value <= v.Value.High; value++ {
				for zero := v.Zero.Low; zero <= v.Zero.High; zero++ {
					if can(value, zero, tilt) {
						return true
					}
				}
			}
			return false
		}
		if e != api.OK || !some(tilt.Low) || !some(tilt.High) || some(tilt.Low-1) || some(tilt.High+1) {
			t.Fatalf("Tilt(%v, %v): %v, %d: an end is no end", v, l, tilt, e)
		}
		for _, end := range []int{zero.Low, zero.High} {
			found := false
			for at := tilt.Low; at <= tilt.High && !found; at++ {
				for value := v.Value.Low; value <= v.Value.High && !found; value++ {
					found = can(value, end, at)
				}
			}
			if !found {
				t.Fatalf("Tilt(%v, %v): %v: the zero %d is in no truth", v, l, zero, end)
			}
		}
	}
}

// P3.10: with readings of both kinds the zero differs from half the sum of their middles by at most Wrong, however wide the vial's is.
func TestNoZeroNeeded(t *testing.T) {
	var d dice
	tight := 0
	for range 2000 {
		v := d.large()
		truth := d.truth(v, d.from(-v.Marks/3, v.Marks/3))
		v.Zero = to(0, 2*v.Marks)
		l := d.readings(v, truth, api.LevelReadings, 0)
		_, zero, e := level.Tilt(v, l)
		for _, a := range l {
			for _, b := range l {
				if a.Turned || !b.Turned {
					continue
				}
				sum := a.Left + a.Right + b.Left + b.Right
				if e != api.OK || without(2*zero.Low-sum) > 2*v.Wrong || without(2*zero.High-sum) > 2*v.Wrong {
					t.Fatalf("Tilt(%v, %v): the zero %v, %d; twice %d", v, l, zero, e, sum)
				}
				if len(l) == 2 && sum%2 == 0 {
					tight++
					if want := to(max(0, sum/2-v.Wrong), min(2*v.Marks, sum/2+v.Wrong)); zero != want {
						t.Fatalf("Tilt(%v, %v): the zero %v, not %v", v, l, zero, want)
					}
				}
			}
		}
	}
	if tight < 20 {
		t.Errorf("only %d pairs", tight)
	}
}

// P3.11: readings that are named cannot all be so; without any one of them the others can.
func TestNamed(t *testing.T) {
	var d dice
	named := 0
	for range 2000 {
		v := d.large()
		l := d.readings(v, d.truth(v, d.from(-v.Marks/3, v.Marks/3)), api.LevelReadings, 5)
		if len(l) == 0 {
			continue
		}
		list, e := level.False(v, l)
		if _, _, f := level.Tilt(v, l); (f == api.ErrLevelFalse) != (e == api.OK) || (e == api.ErrNone) != (list == nil) {
			t.Fatalf("False(%v, %v): %v, %d; Tilt %d", v, l, list, e, f)
		}
		if e != api.OK {
			continue
		}
		named++
		var some []api.LevelReading
		for _, i := range list {
			some = append(some, l[i])
		}
		if _, _, e := level.Tilt(v, some); e != api.ErrLevelFalse || len(some) < 2 {
			t.Fatalf("False(%v, %v): %v, of which Tilt says %d", v, l, list, e)
		}
		for i := range some {
			if _, _, e := level.Tilt(v, slices.Delete(slices.Clone(some), i, i+1)); e != api.OK {
				t.Fatalf("False(%v, %v): %v; but without %d, %d", v, l, list, list[i], e)
			}
		}
	}
	if named < 200 {
		t.Errorf("only %d with readings that are named", named)
	}
}

// P3.11: with more readings the tilt, and the zero, are not less narrow; no direct or turned one leaves more than Next says of the kind.
func TestOneReadingMore(t *testing.T) {
	var d dice
	narrower, nexts := 0, 0
	for range 1500 {
		v := d.large()
		truth := d.truth(v, d.from(-v.Marks/3, v.Marks/3))
		l := d.readings(v, truth, api.LevelReadings, 0)
		for i := 1; i < len(l); i++ {
			a, z, e := level.Tilt(v, l[:i])
			b, y, f := level.Tilt(v, l[:i+1])
			if e != api.OK || f != api.OK || b.Low < a.Low || b.High > a.High || y.Low < z.Low || y.High > z.High {
				t.Fatalf("Tilt(%v, %v): %v, %v, %d; without the last one %v, %v, %d", v, l[:i+1], b, y, f, a, z, e)
			}
			if a != b {
				narrower++
			}
			if d.from(0, 19) > 0 {
				continue
			}
			turned, width, g := level.Next(v, l[:i])
			if g != api.OK || width > a.High-a.Low || turned == l[i].Turned && b.High-b.Low > width {
				t.Fatalf("Next(%v, %v): %v, %d, %d; but with %v, %v", v, l[:i], turned, width, g, l[i], b)
			}
			nexts++
		}
	}
	if narrower < 500 || nexts < 100 {
		t.Errorf("only %d are narrower, %d asked", narrower, nexts)
	}
}

// P3.12: after the clicks each tilt is within the bound; none fewer do that.
func TestScrew(t *testing.T) {
	var d dice
	found, none := 0, 0
	for range 2000 {
		tilt := d.span(-1000000, 1000000, 400)
		worth, bound := d.from(1, api.LevelClick), d.from(0, 300)
		clicks, e := level.Clicks(tilt, worth, bound)
		if e != api.OK {
			none++
			for x := -(tilt.High + bound) / worth; x <= (bound-tilt.Low)/worth; x++ {
				if without(tilt.Low+x*worth) <= bound && without(tilt.High+x*worth) <= bound {
					t.Fatalf("Clicks(%v, %d, %d): %d, but %d do", tilt, worth, bound, e, x)
				}
			}
			continue
		}
		found++
		for x := tilt.Low; x <= tilt.High; x++ {
			if without(x+clicks*worth) > bound {
				t.Fatalf("Clicks(%v, %d, %d): %d leave %d", tilt, worth, bound, clicks, x+clicks*worth)
			}
		}
		for fewer := 1 - without(clicks); fewer < without(clicks); fewer++ {
			if without(tilt.Low+fewer*worth) <= bound && without(tilt.High+fewer*worth) <= bound {
				t.Fatalf("Clicks(%v, %d, %d): %d, but %d do", tilt, worth, bound, clicks, fewer)
			}
		}
	}
	if found < 500 || none < 500 {
		t.Errorf("%d levelled, %d not", found, none)
	}
}

// P3.13: with a vial that does, the bubble of each tilt in range lies within the marks, direct and turned, and a single reading of it leaves a span of the tilt that is not wider than the fault.
func TestVial(t *testing.T) {
	var d dice
	do, not := 0, 0
	for range 400 {
		v := d.large()
		v.Length = d.span(1, v.Marks/2, 9)
		w := api.LevelWish{Range: d.from(0, v.Value.Low*v.Marks/2), Fault: d.from(0, 30*v.Value.High)}
		if _, e := level.Choose([]api.LevelVial{v}, []int{1}, w); e != api.OK {
			not++
			continue
		}
		do++
		for _, value := range []int{v.Value.Low, v.Value.High} {
			for zero := v.Zero.Low; zero <= v.Zero.High; zero++ {
				if value*(zero-v.Length.High) < w.Range || value*(2*v.Marks-zero-v.Length.High) < w.Range {
					t.Fatalf("Choose(%v, %v): beyond the marks at %d, %d", v, w, value, zero)
				}
			}
		}
		for middle := v.Length.High; middle <= 2*v.Marks-v.Length.High; middle++ {
			r, found := d.reading(v, middle, d.from(0, 1) == 0)
			if !found {
				continue
			}
			if tilt, _, e := level.Tilt(v, []api.LevelReading{r}); e != api.OK || tilt.High-tilt.Low > w.Fault {
				t.Fatalf("Choose(%v, %v): the reading %v leaves %v, %d", v, w, r, tilt, e)
			}
		}
	}
	if do < 50 || not < 50 {
		t.Errorf("%d do, %d do not", do, not)
	}
}

// P1: each call ends, with as many readings and vials as there can be, of the greatest kind.
func TestLargest(t *testing.T) {
	v := api.LevelVial{Marks: 200, Length: to(1, 200), Value: to(1, 500), Zero: to(0, 400), Wrong: 8}
	l := slices.Repeat([]api.LevelReading{{Left: 90, Right: 110}, {Left: 92, Right: 112, Turned: true}}, 4)
	if list, e := level.False(v, l); list != nil || e != api.ErrNone {
		t.Errorf("False: %v, %d", list, e)
	}
	if tilt, zero, e := level.Tilt(v, l); tilt != to(-10*500, 6*500) || zero != to(194, 210) || e != api.OK {
		t.Errorf("Tilt: %v, %v, %d", tilt, zero, e)
	}
	if turned, width, e := level.Next(v, l[:7]); turned || width != 8000 || e != api.OK {
		t.Errorf("Next: %v, %d, %d", turned, width, e)
	}
	v.Length = to(1, 1)
	stock, prices := slices.Repeat([]api.LevelVial{v}, 10), make([]int, 10)
	if i, e := level.Choose(stock, prices, api.LevelWish{Fault: 100000}); i != 0 || e != api.ErrNone {
		t.Errorf("Choose: %d, %d", i, e)
	}
	for i := range stock {
		stock[i].Zero = to(1, 399)
	}
	if i, e := level.Choose(stock, prices, api.LevelWish{Fault: 100000}); i != 0 || e != api.ErrNone {
		t.Errorf("Choose: %d, %d", i, e) // the fault is 414 times 500
	}
}
