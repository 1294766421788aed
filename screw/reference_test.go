package screw_test

import (
	"math/big"
	"slices"

	"octant/api"
	"octant/screw"
)

// The functions of this file say slowly what the document says, to check the package against.

// dice is a row of numbers that look as if by chance, the same ones each time.
type dice uint64

// from returns a number from low to high.
func (d *dice) from(low, high int) int {
	*d = *d*6364136223846793005 + 1442695040888963407
	return low + int(uint64(*d)>>33)%(high-low+1)
}

// lathe returns a valid lathe, often with wheels that are the same.
func (d *dice) lathe() api.ScrewLathe {
	l := api.ScrewLathe{Num: d.from(1, 12), Den: d.from(1, 12)}
	if d.from(0, 5) == 0 {
		l.Num, l.Den = d.from(1, api.ScrewPitch), d.from(1, api.ScrewPitch)
	}
	for range d.from(2, 6) {
		teeth := 10 * d.from(1, 8)
		if d.from(0, 3) == 0 {
			teeth = d.from(10, api.ScrewTeeth)
		}
		l.Wheels = append(l.Wheels, teeth)
	}
	slices.Sort(l.Wheels)
	return l
}

// slowGears returns all gears of a lathe with some wheels, in their order.
func slowGears(wheels int) [][]int {
	var two, four [][]int
	for a := range wheels {
		for b := range wheels {
			if a == b {
				continue
			}
			two = append(two, []int{a, b})
			for c := range wheels {
				for d := range wheels {
					if c != a && c != b && d != a && d != b && d != c {
						four = append(four, []int{a, b, c, d})
					}
				}
			}
		}
	}
	return append(two, four...)
}

// slowPitch returns the pitch that gears cut.
func slowPitch(l api.ScrewLathe, gears []int) *big.Rat {
	p := big.NewRat(int64(l.Num), int64(l.Den))
	for i := 0; i < len(gears); i += 2 {
		p.Mul(p, big.NewRat(int64(l.Wheels[gears[i]]), int64(l.Wheels[gears[i+1]])))
	}
	return p
}

// slowNearest returns the gears that cut a pitch most nearly, and whether they cut it exactly.
func slowNearest(l api.ScrewLathe, num, den int) (gears []int, exact bool) {
	var least *big.Rat
	for _, g := range slowGears(len(l.Wheels)) {
		off := slowPitch(l, g)
		off.Sub(off, big.NewRat(int64(num), int64(den)))
		off.Abs(off)
		if least == nil || off.Cmp(least) < 0 {
			gears, least = g, off
		}
	}
	return gears, least.Sign() == 0
}

// set returns screws with so few errors that all of them can be tried, mostly.
func (d *dice) set() api.ScrewSet {
	return [...]api.ScrewSet{
		{Turns: []int{1, 2}, Most: d.from(0, 5)},
		{Turns: []int{1, 1, 1}, Most: d.from(0, 5)},
		{Turns: []int{4}, Most: d.from(0, 3)},
		{Turns: []int{1, 1, 1, 1}, Most: d.from(1, 3)},
		{Turns: []int{2, 1, 1}, Most: d.from(1, 2)},
		{Turns: []int{1}, Most: d.from(0, 20)},
	}[d.from(0, 5)]
}

// readings returns readings of screws, most of which hold for some errors of them.
func (d *dice) readings(s api.ScrewSet, most int) []api.ScrewReading {
	errors := d.errors(s)
	var l []api.ScrewReading
	for range d.from(0, most) {
		r := api.ScrewReading{A: d.from(0, len(s.Turns)-1), B: d.from(0, len(s.Turns)-1), Wrong: d.from(0, s.Most/2)}
		r.I, r.J = d.from(0, s.Turns[r.A]), d.from(0, s.Turns[r.B])
		r.Value = errors[r.A][r.I] - errors[r.B][r.J] + d.from(-r.Wrong, r.Wrong)
		if d.from(0, 9) == 0 {
			r.Value += d.from(-2, 2)
		}
		r.Value = min(max(r.Value, -200000), 200000)
		l = append(l, r)
	}
	return l
}

// errors returns errors of screws.
func (d *dice) errors(s api.ScrewSet) [][]int {
	var l [][]int
	for _, turns := range s.Turns {
		one := make([]int, turns+1)
		for i := 1; i <= turns; i++ {
			one[i] = d.from(-s.Most, s.Most)
		}
		l = append(l, one)
	}
	return l
}

// slowHolds reports whether a reading holds for errors.
func slowHolds(r api.ScrewReading, errors [][]int) bool {
	return without(errors[r.A][r.I]-errors[r.B][r.J]-r.Value) <= r.Wrong
}

func without(sign int) int {
	if sign < 0 {
		return -sign
	}
	return sign
}

// slowTruths calls a function with all truths, one after the other, in the same memory.
func slowTruths(s api.ScrewSet, l []api.ScrewReading, do func(errors [][]int)) {
	errors := make([][]int, len(s.Turns))
	for i, turns := range s.Turns {
		errors[i] = make([]int, turns+1)
	}
	var try func(screw, turn int)
	try = func(screw, turn int) {
		if screw == len(s.Turns) {
			if !slices.ContainsFunc(l, func(r api.ScrewReading) bool { return !slowHolds(r, errors) }) {
				do(errors)
			}
			return
		}
		if turn > s.Turns[screw] {
			try(screw+1, 1)
			return
		}
		for x := -s.Most; x <= s.Most; x++ {
			errors[screw][turn] = x
			try(screw, turn+1)
		}
	}
	try(0, 1)
}

// slowSpans returns the spans of all truths, or nil.
func slowSpans(s api.ScrewSet, l []api.ScrewReading) [][]api.Span {
	var all [][]api.Span
	slowTruths(s, l, func(errors [][]int) {
		if all == nil {
			for _, one := range errors {
				var spans []api.Span
				for _, x := range one {
					spans = append(spans, api.Span{Low: x, High: x})
				}
				all = append(all, spans)
			}
		}
		for i, one := range errors {
			for j, x := range one {
				all[i][j] = api.Span{Low: min(all[i][j].Low, x), High: max(all[i][j].High, x)}
			}
		}
	})
	return all
}

// slowSuspects returns the readings without which there is a truth.
func slowSuspects(s api.ScrewSet, l []api.ScrewReading) []int {
	var list []int
	for i := range l {
		if slowSpans(s, slices.Delete(slices.Clone(l), i, i+1)) != nil {
			list = append(list, i)
		}
	}
	return list
}

func slowLap(l []int, nut int) []int {
	var lapped []int
	for place := 0; place+nut <= len(l); place++ {
		all := 0
		for i := range nut {
			all += l[place+i]
		}
		lapped = append(lapped, all)
	}
	return lapped
}

func slowLaps(l []int, nut, limit int) (int, api.Errno) {
	for n := 0; n <= 4; n++ {
		lapped, times := l, 1
		for range n {
			lapped, times = slowLap(lapped, nut), times*nut
		}
		if len(lapped) > 0 && slices.Max(lapped)-slices.Min(lapped) <= limit*times {
			return n, api.OK
		}
	}
	return 0, api.ErrNone
}

// slowPeriods tries each pair of spans, as spans have a common number if any two of them have one.
func slowPeriods(l []api.Span) []int {
	var periods []int
next:
	for p := 1; p <= len(l); p++ {
		for i, a := range l {
			for j, b := range l {
				if (j-i)%p == 0 && (a.Low > b.High || b.Low > a.High) {
					continue next
				}
			}
		}
		periods = append(periods, p)
	}
	return periods
}

// input has all that a call can need.
type input struct {
	lathe    api.ScrewLathe
	gears    []int
	num, den int
	set      api.ScrewSet
	readings []api.ScrewReading
	errors   [][]int
	places   []int
	nut      int
	limit    int
	list     []api.Span
}

// result has a field for each kind of result.
type result struct {
	num, den int
	yes      bool
	list     []int
	spans    [][]api.Span
	e        api.Errno
}

// call is a call of the package, all of whose results are in one value.
type call struct {
	name string
	do   func(in input) result
}

// latheCalls returns the calls that have a lathe.
func latheCalls() []call {
	return []call{
		{"Check", func(in input) (r result) {
			r.e = screw.Check(in.lathe)
			return r
		}},
		{"Pitch", func(in input) (r result) {
			r.num, r.den, r.e = screw.Pitch(in.lathe, in.gears)
			return r
		}},
		{"Cut", func(in input) (r result) {
			r.list, r.e = screw.Cut(in.lathe, in.num, in.den)
			return r
		}},
		{"Nearest", func(in input) (r result) {
			r.list, r.e = screw.Nearest(in.lathe, in.num, in.den)
			return r
		}},
	}
}

// setCalls returns the calls that have screws.
func setCalls() []call {
	return []call{
		{"Truth", func(in input) (r result) {
			r.yes, r.e = screw.Truth(in.set, in.readings, in.errors)
			return r
		}},
		{"Spans", func(in input) (r result) {
			r.spans, r.e = screw.Spans(in.set, in.readings)
			return r
		}},
		{"Suspects", func(in input) (r result) {
			r.list, r.e = screw.Suspects(in.set, in.readings)
			return r
		}},
	}
}

// allCalls returns the calls of all functions.
func allCalls() []call {
	return slices.Concat(latheCalls(), setCalls(), []call{
		{"Lap", func(in input) (r result) {
			r.list, r.e = screw.Lap(in.places, in.nut)
			return r
		}},
		{"Laps", func(in input) (r result) {
			r.num, r.e = screw.Laps(in.places, in.nut, in.limit)
			return r
		}},
		{"Periods", func(in input) (r result) {
			r.list, r.e = screw.Periods(in.list)
			return r
		}},
	})
}
