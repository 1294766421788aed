package level_test

import (
	"slices"

	"octant/api"
	"octant/level"
)

// The functions of this file say slowly what the document says, to check the package against.

// dice is a row of numbers that look as if by chance, the same ones each time.
type dice uint64

// from returns a number from low to high.
func (d *dice) from(low, high int) int {
	*d = *d*6364136223846793005 + 1442695040888963407
	return low + int(uint64(*d)>>33)%(high-low+1)
}

// span returns a span from low to high that is not wider than some number.
func (d *dice) span(low, high, wide int) api.Span {
	a := d.from(low, high)
	return api.Span{Low: a, High: min(a+d.from(0, wide), high)}
}

// small returns a valid vial, with so few truths that all of them can be tried.
func (d *dice) small() api.LevelVial {
	marks := d.from(10, 14)
	v := api.LevelVial{Marks: marks, Length: d.span(1, marks, 4), Value: d.span(1, 5, 2), Zero: d.span(0, 2*marks, 8), Wrong: d.from(0, 3)}
	if d.from(0, 2) > 0 {
		v.Length, v.Zero = d.span(2, 6, 3), d.span(marks-3, marks+3, 6)
	}
	return v
}

// large returns a valid vial of any size.
func (d *dice) large() api.LevelVial {
	marks := d.from(10, api.LevelMarks)
	return api.LevelVial{Marks: marks, Length: d.span(1, marks, 9), Value: d.span(1, api.LevelValue, 3), Zero: d.span(marks/2, marks*3/2, 12), Wrong: d.from(0, api.LevelWrong)}
}

// truth returns a truth of a vial in which the bubble moves by so many half marks.
func (d *dice) truth(v api.LevelVial, moved int) api.LevelTruth {
	t := api.LevelTruth{Value: d.from(v.Value.Low, v.Value.High), Zero: d.from(v.Zero.Low, v.Zero.High)}
	t.Tilt = t.Value * moved
	return t
}

// reading returns a reading that has a middle, and whether there is one.
func (d *dice) reading(v api.LevelVial, middle int, turned bool) (api.LevelReading, bool) {
	var list []api.LevelReading
	for left := range v.Marks {
		if right := middle - left; slowIsReading(v, left, right) {
			list = append(list, api.LevelReading{Left: left, Right: right, Turned: turned})
		}
	}
	if len(list) == 0 {
		return api.LevelReading{}, false
	}
	return list[d.from(0, len(list)-1)], true
}

// readings returns readings that can be so in a truth in which the bubble moved by a whole number, or are wrong by more half marks than they can be; there may be none of them.
func (d *dice) readings(v api.LevelVial, t api.LevelTruth, most, more int) []api.LevelReading {
	var l []api.LevelReading
	for range d.from(1, most) {
		turned, middle := d.from(0, 1) == 1, t.Zero+t.Tilt/t.Value
		if turned {
			middle = t.Zero - t.Tilt/t.Value
		}
		wrong := v.Wrong
		if d.from(0, 2) == 0 {
			wrong += more
		}
		if r, found := d.reading(v, middle+d.from(-wrong, wrong), turned); found {
			l = append(l, r)
		}
	}
	return l
}

// fours returns a vial, and readings of which four cannot all be so, but any three of them can, or nearly such readings.
func (d *dice) fours() (api.LevelVial, []api.LevelReading) {
	v := api.LevelVial{Marks: 14, Length: to(4, 6), Value: d.span(1, 3, 1), Zero: to(8, 20), Wrong: d.from(1, 2)}
	middle, sum := d.from(10, 18), 2*d.from(13, 15)-1
	var l []api.LevelReading
	for _, s := range []sight{{middle, false}, {sum - middle, true}, {middle + 2*v.Wrong, false}, {sum - middle + 2*v.Wrong, true}} {
		if d.from(0, 7) == 0 {
			s.middle += d.from(-1, 1)
		}
		if r, found := d.reading(v, s.middle, s.turned); found {
			l = append(l, r)
		}
	}
	return v, l
}

// slowIsReading reports whether a reading of a vial can have two ends.
func slowIsReading(v api.LevelVial, left, right int) bool {
	if left < 0 || right <= left || right > v.Marks {
		return false
	}
	for length := v.Length.Low; length <= v.Length.High; length++ {
		if without(right-left-length) <= v.Wrong {
			return true
		}
	}
	return false
}

func without(sign int) int {
	if sign < 0 {
		return -sign
	}
	return sign
}

// sight is a reading without its ends.
type sight struct {
	middle int
	turned bool
}

func sights(l []api.LevelReading) []sight {
	var list []sight
	for _, r := range l {
		list = append(list, sight{r.Left + r.Right, r.Turned})
	}
	return list
}

// slowCan reports whether a reading can be so in a truth.
func slowCan(v api.LevelVial, s sight, t api.LevelTruth) bool {
	a, b := s.middle-t.Zero-v.Wrong, s.middle-t.Zero+v.Wrong
	if s.turned {
		a, b = t.Zero-s.middle-v.Wrong, t.Zero-s.middle+v.Wrong
	}
	return t.Value*min(a, b) <= t.Tilt && t.Tilt <= t.Value*max(a, b)
}

func slowAllCan(v api.LevelVial, l []sight, t api.LevelTruth) bool {
	return !slices.ContainsFunc(l, func(s sight) bool { return !slowCan(v, s, t) })
}

// slowTruths returns all truths in which readings can all be so.
func slowTruths(v api.LevelVial, l []sight) []api.LevelTruth {
	var list []api.LevelTruth
	farthest := v.Value.High * (2*v.Marks + v.Wrong)
	for value := v.Value.Low; value <= v.Value.High; value++ {
		for zero := v.Zero.Low; zero <= v.Zero.High; zero++ {
			for tilt := -farthest; tilt <= farthest; tilt++ {
				if t := (api.LevelTruth{Value: value, Zero: zero, Tilt: tilt}); slowAllCan(v, l, t) {
					list = append(list, t)
				}
			}
		}
	}
	return list
}

// slowHull returns between what the tilt, and the zero of truths lie.
func slowHull(list []api.LevelTruth) (tilt, zero api.Span) {
	for i, t := range list {
		if i == 0 {
			tilt, zero = api.Span{Low: t.Tilt, High: t.Tilt}, api.Span{Low: t.Zero, High: t.Zero}
		}
		tilt = api.Span{Low: min(tilt.Low, t.Tilt), High: max(tilt.High, t.Tilt)}
		zero = api.Span{Low: min(zero.Low, t.Zero), High: max(zero.High, t.Zero)}
	}
	return tilt, zero
}

// slowFalse returns the fewest readings that cannot all be so, or nil.
func slowFalse(v api.LevelVial, l []api.LevelReading) []int {
	var fewest []int
	for set := 1; set < 1<<len(l); set++ {
		var list []int
		var some []sight
		for i, s := range sights(l) {
			if set>>i&1 == 1 {
				list, some = append(list, i), append(some, s)
			}
		}
		later := len(list) > len(fewest) || len(list) == len(fewest) && slices.Compare(list, fewest) > 0
		if fewest != nil && later || len(slowTruths(v, some)) > 0 {
			continue
		}
		fewest = list
	}
	return fewest
}

// slowGain returns the gain of a kind of further reading, or -1.
func slowGain(v api.LevelVial, truths []api.LevelTruth, turned bool) int {
	gain := -1
	for middle := 0; middle <= 2*v.Marks; middle++ {
		var left []api.LevelTruth
		for _, t := range truths {
			if slowCan(v, sight{middle, turned}, t) {
				left = append(left, t)
			}
		}
		if tilt, _ := slowHull(left); left != nil {
			gain = max(gain, tilt.High-tilt.Low)
		}
	}
	return gain
}

// slowClicks returns the fewest clicks that level a tilt, and whether any do.
func slowClicks(tilt api.Span, worth, bound int) (int, bool) {
	for n := range 2000 {
		for _, clicks := range [...]int{-n, n} {
			if without(tilt.Low+clicks*worth) <= bound && without(tilt.High+clicks*worth) <= bound {
				return clicks, true
			}
		}
	}
	return 0, false
}

// slowReaches reports whether a tilt leaves the middle in its place, whatever a vial's value and zero are.
func slowReaches(v api.LevelVial, tilt int) bool {
	for value := v.Value.Low; value <= v.Value.High; value++ {
		for zero := v.Zero.Low; zero <= v.Zero.High; zero++ {
			for _, t := range [...]int{-tilt, tilt} {
				if middle := value*zero + t; middle < value*v.Length.High || middle > value*(2*v.Marks-v.Length.High) {
					return false
				}
			}
		}
	}
	return true
}

// slowFault returns the fault of a vial.
func slowFault(v api.LevelVial) int {
	fault := 0
	for middle := v.Length.High; middle <= 2*v.Marks-v.Length.High; middle++ {
		tilt, _ := slowHull(slowTruths(v, []sight{{middle, false}}))
		fault = max(fault, tilt.High-tilt.Low)
	}
	return fault
}

// slowChoose returns the cheapest vial that does, or -1.
func slowChoose(stock []api.LevelVial, faults, prices []int, w api.LevelWish) int {
	chosen := -1
	for i, v := range stock {
		if slowReaches(v, w.Range) && faults[i] <= w.Fault && (chosen < 0 || prices[i] < prices[chosen]) {
			chosen = i
		}
	}
	return chosen
}

// input has all that a call can need.
type input struct {
	vial         api.LevelVial
	readings     []api.LevelReading
	truth        api.LevelTruth
	tilt         api.Span
	worth, bound int
	stock        []api.LevelVial
	prices       []int
	wish         api.LevelWish
}

// result has a field for each kind of result.
type result struct {
	yes        bool
	number     int
	tilt, zero api.Span
	list       []int
	e          api.Errno
}

// call is a call of the package, all of whose results are in one value.
type call struct {
	name string
	do   func(in input) result
}

// readingCalls returns the calls that have a vial and readings.
func readingCalls() []call {
	return []call{
		{"Can", func(in input) (r result) {
			r.yes, r.e = level.Can(in.vial, in.readings, in.truth)
			return r
		}},
		{"Tilt", func(in input) (r result) {
			r.tilt, r.zero, r.e = level.Tilt(in.vial, in.readings)
			return r
		}},
		{"False", func(in input) (r result) {
			r.list, r.e = level.False(in.vial, in.readings)
			return r
		}},
		{"Next", func(in input) (r result) {
			r.yes, r.number, r.e = level.Next(in.vial, in.readings)
			return r
		}},
	}
}

// allCalls returns the calls of all functions.
func allCalls() []call {
	return append(readingCalls(), []call{
		{"Check", func(in input) (r result) {
			r.e = level.Check(in.vial)
			return r
		}},
		{"Clicks", func(in input) (r result) {
			r.number, r.e = level.Clicks(in.tilt, in.worth, in.bound)
			return r
		}},
		{"Choose", func(in input) (r result) {
			r.number, r.e = level.Choose(in.stock, in.prices, in.wish)
			return r
		}},
	}...)
}
