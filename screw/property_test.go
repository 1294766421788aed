package screw_test

import (
	"math"
	"math/big"
	"reflect"
	"slices"
	"testing"

	"octant/api"
	"octant/screw"
)

// roomy returns a list with room behind it, so that an append to it would show.
func roomy[T any](l []T) []T {
	big := make([]T, len(l), len(l)+4)
	copy(big, l)
	return big
}

// shopInput returns an input with which each call does something.
func shopInput(readings []api.ScrewReading) input {
	in := input{
		lathe: shopLathe(), gears: roomy([]int{0, 1, 2, 3}), num: 2, den: 15,
		set: shopSet(), readings: roomy(readings), errors: roomy([][]int{roomy([]int{0, 20}), roomy([]int{0, 10, 25})}),
		places: roomy(waves()), nut: 2, limit: 1, list: roomy(shopSpans()),
	}
	in.lathe.Wheels, in.set.Turns = roomy(in.lathe.Wheels), roomy(in.set.Turns)
	return in
}

// behind returns what lies behind the lists of an input.
func behind(in input) []any {
	return []any{
		in.lathe.Wheels[:cap(in.lathe.Wheels)], in.gears[:cap(in.gears)], in.set.Turns[:cap(in.set.Turns)],
		in.readings[:cap(in.readings)], in.errors[:cap(in.errors)], in.errors[0][:cap(in.errors[0])], in.errors[1][:cap(in.errors[1])],
		in.places[:cap(in.places)], in.list[:cap(in.list)],
	}
}

// P2.5: no call changes an argument, nor what lies behind it.
func TestArgumentsAreRead(t *testing.T) {
	for _, c := range allCalls() {
		for _, readings := range [][]api.ScrewReading{shopReadings(), furtherReadings()} {
			in, want := shopInput(readings), shopInput(readings)
			c.do(in)
			if !reflect.DeepEqual(behind(in), behind(want)) {
				t.Errorf("%s changes its arguments: %v", c.name, in)
			}
		}
	}
}

// spoil changes all that an input's lists contain.
func spoil(in input) {
	for _, l := range [][]int{in.lathe.Wheels, in.gears, in.set.Turns, in.errors[0], in.errors[1], in.places} {
		for i := range l {
			l[i] = -77
		}
	}
	for i := range in.readings {
		in.readings[i] = api.ScrewReading{A: -77}
	}
	for i := range in.list {
		in.list[i] = api.Span{Low: -77, High: -77}
	}
}

// P2.5: results share no memory with arguments, nor with each other or with what another call returns.
func TestResultsAreNew(t *testing.T) {
	for _, c := range allCalls() {
		for _, readings := range [][]api.ScrewReading{shopReadings(), furtherReadings()} {
			in := shopInput(readings)
			r, want := c.do(in), c.do(shopInput(readings))
			spoil(in)
			if !reflect.DeepEqual(r, want) {
				t.Errorf("%s: its result changes with its arguments: %v, not %v", c.name, r, want)
			}
			for i := range r.list {
				r.list[i] = -77
			}
			for i := range r.spans {
				_ = append(r.spans[i], api.Span{Low: -77})
				for j := range r.spans[i] {
					r.spans[i][j] = api.Span{Low: -77}
				}
				if i+1 < len(r.spans) && !reflect.DeepEqual(r.spans[i+1], want.spans[i+1]) {
					t.Errorf("%s: its results share memory: %v", c.name, r)
				}
			}
			if again := c.do(shopInput(readings)); !reflect.DeepEqual(again, want) {
				t.Errorf("%s: another result after a change of the first one: %v, not %v", c.name, again, want)
			}
		}
	}
}

// P2.5: a lap of a nut that is one place long is new memory, too.
func TestLapIsNew(t *testing.T) {
	l := waves()
	got, _ := screw.Lap(l, 1)
	got[0] = 77
	if !slices.Equal(l, waves()) {
		t.Errorf("Lap by 1 shares memory: %v", l)
	}
}

// P1: no call panics, and no result comes with an error.
func TestAnyArguments(t *testing.T) {
	numbers := []int{math.MinInt, -200001, -1, 0, 1, 2, 3, 64, 1000, 1001, 200001, math.MaxInt}
	var d dice
	number := func() int { return numbers[d.from(0, len(numbers)-1)] }
	list := func() []int {
		var l []int
		for range d.from(0, 5) {
			l = append(l, number())
		}
		return l
	}
	lathes, sets := append(validLathes(), invalidLathes()...), append(invalidSets(), shopSet(), shopSet(), shopSet())
	for range 4000 {
		in := shopInput(furtherReadings())
		in.lathe, in.set = lathes[d.from(0, len(lathes)-1)], sets[d.from(0, len(sets)-1)]
		in.gears, in.errors, in.num, in.den = list(), [][]int{list(), list()}, number(), number()
		in.readings = append(in.readings, api.ScrewReading{A: d.from(0, 2), I: number(), B: number(), J: d.from(0, 2), Value: number(), Wrong: d.from(-1, 3)})[d.from(0, 4):]
		in.places, in.nut, in.limit = list(), number(), number()
		in.list = append(in.list, api.Span{Low: number(), High: number()})[d.from(0, 5):]
		for _, c := range allCalls() {
			if r := c.do(in); r.e != api.OK && !reflect.DeepEqual(r, result{e: r.e}) {
				t.Fatalf("%s with an error: %v", c.name, r)
			}
		}
	}
}

// P2: a call has the same result when it comes again, behind others; a nil list is as an empty one (R3).
func TestSameAgain(t *testing.T) {
	for _, c := range allCalls() {
		first := c.do(shopInput(furtherReadings()))
		for _, other := range allCalls() {
			other.do(shopInput(shopReadings()))
		}
		if again := c.do(shopInput(furtherReadings())); !reflect.DeepEqual(first, again) {
			t.Errorf("%s: %v, then %v", c.name, first, again)
		}
		empty := input{gears: []int{}, errors: [][]int{}, readings: []api.ScrewReading{}, places: []int{}, list: []api.Span{}}
		for _, s := range []api.ScrewSet{{}, shopSet()} {
			for _, l := range []api.ScrewLathe{{}, shopLathe()} {
				none := input{lathe: l, set: s}
				empty.lathe, empty.set = l, s
				if a, b := c.do(none), c.do(empty); !reflect.DeepEqual(a, b) {
					t.Errorf("%s: %v with nil lists, %v with empty ones", c.name, a, b)
				}
			}
		}
	}
}

// fraction returns a pitch as a number.
func fraction(num, den int) *big.Rat { return big.NewRat(int64(num), int64(den)) }

// off returns by how much a pitch differs from the one of gears.
func off(l api.ScrewLathe, gears []int, num, den int) *big.Rat {
	d := slowPitch(l, gears)
	return d.Abs(d.Sub(d, fraction(num, den)))
}

// P2.6: gears that are cut give the pitch exactly; no gears are nearer than those of Nearest, and these are the same where there are exact ones.
func TestLatheIsRight(t *testing.T) {
	var d dice
	cut, none := 0, 0
	for range 800 {
		l, num, den := d.lathe(), d.from(1, 12), d.from(1, 12)
		gears := slowGears(len(l.Wheels))
		if p := slowPitch(l, gears[d.from(0, len(gears)-1)]); p.Num().Int64() <= 1000 && p.Denom().Int64() <= 1000 {
			num, den = int(p.Num().Int64()), int(p.Denom().Int64())
		}
		near, e := screw.Nearest(l, num, den)
		if e != api.OK {
			t.Fatalf("Nearest(%v, %d, %d): %d", l, num, den, e)
		}
		exact, e := screw.Cut(l, num, den)
		if e == api.OK {
			cut++
			p, q, f := screw.Pitch(l, exact)
			if f != api.OK || fraction(p, q).Cmp(fraction(num, den)) != 0 || !slices.Equal(exact, near) {
				t.Fatalf("%v cuts %d by %d with %v, %d: %d by %d; nearest %v", l, num, den, exact, f, p, q, near)
			}
			continue
		}
		none++
		least := off(l, near, num, den)
		if least.Sign() == 0 {
			t.Fatalf("%v does not cut %d by %d, but %v do", l, num, den, near)
		}
		for _, g := range gears {
			if off(l, g, num, den).Cmp(least) < 0 {
				t.Fatalf("%v: %v are nearer to %d by %d than %v", l, g, num, den, near)
			}
		}
	}
	if cut < 80 || none < 80 {
		t.Errorf("%d are cut, %d are not", cut, none)
	}
}

// P2.1: of all pitches the parts have no common divisor above 1, and are above 0.
func TestLowestTerms(t *testing.T) {
	for _, l := range validLathes() {
		for _, g := range slowGears(len(l.Wheels)) {
			num, den, e := screw.Pitch(l, g)
			if e != api.OK || num < 1 || den < 1 || big.NewInt(0).GCD(nil, nil, big.NewInt(int64(num)), big.NewInt(int64(den))).Int64() != 1 {
				t.Fatalf("Pitch(%v, %v): %d by %d, %d", l, g, num, den, e)
			}
		}
	}
}

// largeSet returns valid screws, with errors that cannot all be tried.
func (d *dice) largeSet() api.ScrewSet {
	s := api.ScrewSet{Most: [...]int{10, 1000, api.ScrewMost}[d.from(0, 2)]}
	for range d.from(1, api.ScrewScrews) {
		s.Turns = append(s.Turns, d.from(1, api.ScrewTurns))
	}
	return s
}

// ends returns all the greatest errors together, or all the least ones.
func ends(spans [][]api.Span, greatest bool) [][]int {
	var errors [][]int
	for _, list := range spans {
		var one []int
		for _, x := range list {
			if greatest {
				one = append(one, x.High)
			} else {
				one = append(one, x.Low)
			}
		}
		errors = append(errors, one)
	}
	return errors
}

// in reports whether all errors are in their spans.
func in(errors [][]int, spans [][]api.Span) bool {
	for i, list := range errors {
		for j, x := range list {
			if x < spans[i][j].Low || x > spans[i][j].High {
				return false
			}
		}
	}
	return true
}

// P2.7: all the greatest errors together are a truth, so are all the least ones, and each truth is in the spans.
func TestEnds(t *testing.T) {
	var d dice
	found := 0
	for range 2000 {
		s := d.largeSet()
		l := d.readings(s, api.ScrewReadings)
		spans, e := screw.Spans(s, l)
		if e == api.OK {
			found++
			for _, greatest := range []bool{false, true} {
				errors := ends(spans, greatest)
				if yes, f := screw.Truth(s, l, errors); !yes || f != api.OK {
					t.Fatalf("%v, %v: no truth: %v, %d", s, l, errors, f)
				}
			}
		}
		errors := d.errors(s)
		yes, f := screw.Truth(s, l, errors)
		if f != api.OK || yes && (e != api.OK || !in(errors, spans)) {
			t.Fatalf("%v, %v: %v are a truth, not in %v", s, l, errors, spans)
		}
		if yes == slices.ContainsFunc(l, func(r api.ScrewReading) bool { return !slowHolds(r, errors) }) {
			t.Fatalf("%v, %v: %v: a truth %v", s, l, errors, yes)
		}
	}
	if found < 500 {
		t.Errorf("only %d with a truth", found)
	}
}

// P2.7: the errors from which readings were made are in their spans.
func TestMadeErrors(t *testing.T) {
	var d dice
	for range 1000 {
		s := d.largeSet()
		errors := d.errors(s)
		var l []api.ScrewReading
		for range d.from(0, api.ScrewReadings) {
			r := api.ScrewReading{A: d.from(0, len(s.Turns)-1), B: d.from(0, len(s.Turns)-1), Wrong: d.from(0, s.Most)}
			r.I, r.J = d.from(0, s.Turns[r.A]), d.from(0, s.Turns[r.B])
			r.Value = min(max(errors[r.A][r.I]-errors[r.B][r.J]+d.from(-r.Wrong, r.Wrong), -200000), 200000)
			l = append(l, r)
		}
		spans, e := screw.Spans(s, l)
		if yes, f := screw.Truth(s, l, errors); !yes || e != api.OK || f != api.OK || !in(errors, spans) {
			t.Fatalf("%v, %v: %v: %v, %d; in %v, %d", s, l, errors, yes, f, spans, e)
		}
		// P2.8: one reading that does not hold is suspect, if there is no truth with it
		if len(l) == 0 {
			continue
		}
		at := d.from(0, len(l)-1)
		l[at].Value += d.from(1, 300000)
		l[at].Value = min(l[at].Value, 200000)
		if slowHolds(l[at], errors) {
			continue
		}
		suspects, e := screw.Suspects(s, l)
		if _, f := screw.Spans(s, l); (f == api.ErrNone) != (e == api.OK) || e == api.OK && !slices.Contains(suspects, at) {
			t.Fatalf("%v, %v: only %d does not hold for %v, but suspect are %v, %d", s, l, at, errors, suspects, e)
		}
	}
}

// P2.8: with one reading more no span is wider, and there is no truth where there was none.
func TestOneReadingMore(t *testing.T) {
	var d dice
	narrower := 0
	for range 1500 {
		s := d.largeSet()
		l := d.readings(s, api.ScrewReadings)
		before, e := screw.Spans(s, nil)
		for i := range l {
			spans, f := screw.Spans(s, l[:i+1])
			if e != api.OK && f == api.OK {
				t.Fatalf("%v, %v: a truth with the reading %d, not without it", s, l, i)
			}
			if f != api.OK {
				break
			}
			for _, greatest := range []bool{false, true} {
				if !in(ends(spans, greatest), before) {
					t.Fatalf("%v, %v: %v, with the reading %d %v", s, l, before, i, spans)
				}
			}
			if !reflect.DeepEqual(before, spans) {
				narrower++
			}
			before, e = spans, f
		}
	}
	if narrower < 500 {
		t.Errorf("only %d readings narrowed a span", narrower)
	}
}

// P2.9: a spread is after a lap at most the nut times as great; what has a period that divides the nut errs everywhere by the same.
func TestNut(t *testing.T) {
	var d dice
	gone := 0
	for range 3000 {
		l := d.places()
		nut := d.from(1, len(l))
		lapped, e := screw.Lap(l, nut)
		if e != api.OK || len(lapped) != len(l)-nut+1 {
			t.Fatalf("Lap(%v, %d): %v, %d", l, nut, lapped, e)
		}
		if slices.Max(lapped)-slices.Min(lapped) > nut*(slices.Max(l)-slices.Min(l)) {
			t.Fatalf("Lap(%v, %d) makes the spread greater: %v", l, nut, lapped)
		}
		var spans []api.Span
		for _, x := range l {
			spans = append(spans, api.Span{Low: x, High: x})
		}
		periods, _ := screw.Periods(spans)
		for _, p := range periods {
			if nut%p != 0 {
				continue
			}
			if slices.Min(lapped) != slices.Max(lapped) {
				t.Fatalf("Lap(%v, %d), which has the period %d: %v", l, nut, p, lapped)
			}
			if n, e := screw.Laps(l, nut, 0); n > 1 || e != api.OK {
				t.Fatalf("Laps(%v, %d, 0), which has the period %d: %d, %d", l, nut, p, n, e)
			}
			if len(lapped) > 1 {
				gone++
			}
		}
	}
	if gone < 100 {
		t.Errorf("only %d periods are gone", gone)
	}
}

// P2.10: a multiple of a period is one, wider spans have the periods of narrower ones, and the number of spans is one always.
func TestPeriodsGoOn(t *testing.T) {
	var d dice
	short := 0
	for range 3000 {
		l := d.spans()
		periods, e := screw.Periods(l)
		if e != api.OK || !slices.Contains(periods, len(l)) || !slices.IsSorted(periods) {
			t.Fatalf("Periods(%v): %v, %d", l, periods, e)
		}
		wide := slices.Clone(l)
		for i := range wide {
			wide[i] = api.Span{Low: wide[i].Low - d.from(0, 2), High: wide[i].High + d.from(0, 2)}
		}
		wider, _ := screw.Periods(wide)
		for _, p := range periods {
			for q := p; q <= len(l); q += p {
				if !slices.Contains(periods, q) {
					t.Fatalf("Periods(%v): %v, not %d", l, periods, q)
				}
			}
			if !slices.Contains(wider, p) {
				t.Fatalf("Periods(%v): %v, of the wider %v: %v", l, periods, wide, wider)
			}
			if p < len(l) {
				short++
			}
		}
	}
	if short < 1000 {
		t.Errorf("only %d periods", short)
	}
}
