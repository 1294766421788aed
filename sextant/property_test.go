package sextant_test

import (
	"math"
	"reflect"
	"slices"
	"testing"

	"octant/api"
	"octant/sextant"
)

// trials returns trials of a truth (but each shade errs otherwise each time), with angles that are off by at most a number, as a rule.
func (d *dice) trials(s api.Sextant, t truth, count, off int) []api.SextantTrial {
	var l []api.SextantTrial
	for range count {
		x := d.reading(s)
		x.At -= x.At % s.Step
		t.shades = d.picks(s.Shade)
		angle := t.angle(s.Step, x, d.from(-s.Wrong, s.Wrong)) + d.from(-off, off)
		if off > 0 && d.from(0, 9) == 0 {
			angle += d.from(-9, 9)
		}
		l = append(l, api.SextantTrial{SextantReading: x, True: angle})
	}
	return l
}

// stock returns a stock of at most so many parts.
func (d *dice) stock(most int) []api.SextantPart {
	var stock []api.SextantPart
	angles := d.from(2, 4)
	for range d.from(3, most) {
		stock = append(stock, part(d.from(0, 2), d.from(0, 6), d.spans(angles, -9, 9, 6)...))
	}
	return stock
}

// roomy returns a list with room behind it, so that an append to it would show.
func roomy[T any](l []T) []T {
	big := make([]T, len(l), len(l)+4)
	copy(big, l)
	return big
}

// roomyInput returns an input whose lists have room behind them, with these trials.
func roomyInput(trials []api.SextantTrial) input {
	in := shopInput()
	in.sextant.Table, in.sextant.Shade = roomy(in.sextant.Table), roomy(in.sextant.Shade)
	in.suns, in.trials, in.stock = roomy(in.suns), roomy(trials), roomy(in.stock)
	for i := range in.stock {
		in.stock[i].Errors = roomy(in.stock[i].Errors)
	}
	return in
}

// behind returns what lies behind the lists of an input.
func behind(in input) []any {
	list := []any{
		in.sextant.Table[:cap(in.sextant.Table)], in.sextant.Shade[:cap(in.sextant.Shade)],
		in.suns[:cap(in.suns)], in.trials[:cap(in.trials)], in.stock[:cap(in.stock)],
	}
	for _, p := range in.stock {
		list = append(list, p.Errors[:cap(p.Errors)])
	}
	return list
}

// someTrials returns lists of trials: some that cannot be so, some that can, and some that narrow nothing.
func someTrials() [][]api.SextantTrial {
	return [][]api.SextantTrial{shopTrials(), shopTrials()[:2], {trial(0, 0, -25)}}
}

// P5.6: no call changes an argument, nor what lies behind it.
func TestArgumentsAreRead(t *testing.T) {
	for _, c := range allCalls() {
		for _, trials := range someTrials() {
			in, want := roomyInput(trials), roomyInput(trials)
			c.do(in)
			if !reflect.DeepEqual(behind(in), behind(want)) {
				t.Errorf("%s changes its arguments: %v", c.name, in)
			}
		}
	}
}

// spoil changes all that the lists of an input have.
func spoil(in input) {
	for _, list := range [][]api.Span{in.sextant.Table, in.sextant.Shade} {
		for i := range list {
			list[i] = to(-77, -77)
		}
	}
	for i := range in.suns {
		in.suns[i] = api.SextantSun{On: -77}
	}
	for i := range in.trials {
		in.trials[i] = trial(-77, -77, -77)
	}
	for i := range in.stock {
		in.stock[i].Errors[0] = to(-77, -77)
		in.stock[i] = part(-77, -77)
	}
}

// P5.6: results share no memory with arguments, nor with what another call returns.
func TestResultsAreNew(t *testing.T) {
	for _, c := range allCalls() {
		for _, trials := range someTrials() {
			in := roomyInput(trials)
			r, want := c.do(in), c.do(roomyInput(trials))
			spoil(in)
			if !reflect.DeepEqual(r, want) {
				t.Errorf("%s: its result changes with its arguments: %v, not %v", c.name, r, want)
			}
			other := roomyInput(trials)
			r = c.do(other)
			for i := range r.list {
				r.list[i] = -77
			}
			for i := range r.spans {
				r.spans[i] = to(-77, -77)
			}
			if !reflect.DeepEqual(behind(other), behind(roomyInput(trials))) {
				t.Errorf("%s: its arguments change with its result: %v", c.name, other)
			}
			if again := c.do(roomyInput(trials)); !reflect.DeepEqual(again, want) {
				t.Errorf("%s: another result after a change of the first one: %v, not %v", c.name, again, want)
			}
		}
	}
}

// anyInput returns an input of numbers that may be valid or not.
func anyInput(d *dice, sextants []api.Sextant) input {
	numbers := []int{math.MinInt, -36000, -1801, -601, -121, -30, -1, 0, 1, 2, 3, 5, 60, 120, 600, 1000, 1865, 1915, 6000, 36000, 72000, 504000, math.MaxInt}
	number := func() int { return numbers[d.from(0, len(numbers)-1)] }
	span := func() api.Span { return to(number(), number()) }
	in := shopInput()
	switch d.from(0, 3) {
	case 0:
		in.sextant = sextants[d.from(0, len(sextants)-1)]
	case 1:
		in.sextant = api.Sextant{Step: number(), Table: []api.Span{span(), span()}, Index: span(), Wrong: number(), Shade: []api.Span{span()}}
	}
	if d.from(0, 1) == 0 {
		in.reading = api.SextantReading{At: number(), Shades: number()}
	}
	if d.from(0, 1) == 0 {
		in.diameter, in.bound = span(), number()
	}
	in.suns = append(in.suns, api.SextantSun{On: number(), Off: number()})[d.from(0, 3):]
	in.trials = append(shopTrials(), trial(number(), number(), number()))[d.from(0, 4):]
	in.stock = append(in.stock, part(number(), number(), span(), span()), part(0, 0))[d.from(0, 5):]
	return in
}

// P1: no call panics, and no result comes with an error.
func TestAnyArguments(t *testing.T) {
	var d dice
	sextants := append(validSextants(), invalidSextants()...)
	for range 4000 {
		in := anyInput(&d, sextants)
		for _, c := range allCalls() {
			if r := c.do(in); r.e != api.OK && !reflect.DeepEqual(r, result{e: r.e}) {
				t.Fatalf("%s with an error: %v", c.name, r)
			}
		}
	}
}

// P2: a call has the same result when it comes again, behind others; a nil list is as an empty one (R3).
func TestSameAgain(t *testing.T) {
	for _, c := range allCalls() {
		for _, trials := range someTrials() {
			first := c.do(roomyInput(trials))
			for _, other := range allCalls() {
				other.do(roomyInput(trials[:1]))
			}
			if again := c.do(roomyInput(trials)); !reflect.DeepEqual(first, again) {
				t.Errorf("%s: %v, then %v", c.name, first, again)
			}
		}
		for _, table := range [][]api.Span{nil, shopSextant().Table} {
			none, empty := shopInput(), shopInput()
			none.sextant.Table, none.sextant.Shade = table, nil
			none.suns, none.trials, none.stock = nil, nil, nil
			empty.sextant.Table, empty.sextant.Shade = append([]api.Span{}, table...), []api.Span{}
			empty.suns, empty.trials, empty.stock = []api.SextantSun{}, []api.SextantTrial{}, []api.SextantPart{}
			if a, b := c.do(none), c.do(empty); !reflect.DeepEqual(a, b) {
				t.Errorf("%s: %v with nil lists, %v with empty ones", c.name, a, b)
			}
		}
	}
}

// ends returns the truths in which all is at the lower, and at the upper end of its span.
func ends(s api.Sextant) (low, high truth) {
	for _, x := range s.Table {
		low.table, high.table = append(low.table, x.Low), append(high.table, x.High)
	}
	for _, x := range s.Shade {
		low.shades, high.shades = append(low.shades, x.Low), append(high.shades, x.High)
	}
	low.index, high.index = s.Index.Low, s.Index.High
	return low, high
}

// P5.7: the true angle lies between what Read returns, whatever the errors are, and both ends are so in some truth. P5.4: no reading leaves it wider than the fault.
func TestAngle(t *testing.T) {
	var d dice
	for range 2000 {
		s := d.large()
		x := d.reading(s)
		angle, e := sextant.Read(s, x)
		for range 10 {
			truth := d.truth(s)
			if a := truth.angle(s.Step, x, d.from(-s.Wrong, s.Wrong)); e != api.OK || !has(angle, a) {
				t.Fatalf("Read(%v, %v): %v, %d; but in %v it is %d", s, x, angle, e, truth, a)
			}
		}
		low, high := ends(s)
		if a, b := low.angle(s.Step, x, -s.Wrong), high.angle(s.Step, x, s.Wrong); angle != to(a, b) {
			t.Fatalf("Read(%v, %v): %v, not %d to %d", s, x, angle, a, b)
		}
		if class, fault, e := sextant.Class(s); angle.High-angle.Low > fault || class != slowClass(fault) || e != api.OK {
			t.Fatalf("Class(%v): %d, %d, %d; but %v at %v", s, class, fault, e, angle, x)
		}
	}
}

// P5.4: some reading at an angle of the table, with all shades, is as wide as the fault.
func TestFault(t *testing.T) {
	var d dice
	for range 500 {
		s := d.large()
		widest := 0
		for k := range s.Table {
			angle, _ := sextant.Read(s, api.SextantReading{At: k * s.Step, Shades: 1<<len(s.Shade) - 1})
			widest = max(widest, angle.High-angle.Low)
		}
		if _, fault, e := sextant.Class(s); fault != widest || e != api.OK {
			t.Fatalf("Class(%v): %d, %d, not %d", s, fault, e, widest)
		}
	}
}

// inside reports whether a span lies in another one.
func inside(a, b api.Span) bool { return b.Low <= a.Low && a.High <= b.High }

// P5.8: the index error and the diameter lie between what Index returns, and more pairs never make either wider.
func TestSun(t *testing.T) {
	var d dice
	narrower := 0
	for range 1000 {
		s := d.large()
		i, disc := d.in(s.Index), d.from(1900, api.SextantDisc)
		diameter := to(disc-d.from(0, 90), min(disc+d.from(0, 90), api.SextantDisc))
		index, lies := s.Index, diameter
		var l []api.SextantSun
		for range d.from(1, api.SextantSuns) {
			l = append(l, api.SextantSun{On: disc - i + d.from(-s.Wrong, s.Wrong), Off: disc + i + d.from(-s.Wrong, s.Wrong)})
			if p := l[len(l)-1]; !has(to(0, 6000), p.On) || !has(to(0, 6000), p.Off) {
				l = l[:len(l)-1]
				break
			}
			p, q, e := sextant.Index(s, diameter, l)
			if e != api.OK || !has(p, i) || !has(q, disc) {
				t.Fatalf("Index(%v, %v, %v): %v, %v, %d, without %d, %d", s, diameter, l, p, q, e, i, disc)
			}
			if !inside(p, index) || !inside(q, lies) {
				t.Fatalf("Index(%v, %v, %v): %v, %v, but %v, %v with less", s, diameter, l, p, q, index, lies)
			}
			if p != index || q != lies {
				narrower++
			}
			index, lies = p, q
		}
	}
	if narrower < 500 {
		t.Errorf("only %d pairs told anything", narrower)
	}
}

// P5.9: each correction and the index error lie between what Trial returns, none of which is wider than before; with the narrower sextant no reading leaves a wider span, and its class is not worse.
func TestTrials(t *testing.T) {
	var d dice
	narrower, better := 0, 0
	for range 500 {
		s := d.large()
		truth := d.truth(s)
		l := d.trials(s, truth, d.from(1, api.SextantTrials), 0)
		table, index, e := sextant.Trial(s, l)
		if e != api.OK || len(table) != len(s.Table) || !has(index, truth.index) || !inside(index, s.Index) {
			t.Fatalf("Trial(%v, %v): %v, %v, %d, for %v", s, l, table, index, e, truth)
		}
		for k, x := range table {
			if !has(x, truth.table[k]) || !inside(x, s.Table[k]) {
				t.Fatalf("Trial(%v, %v): %v, %v, for %v", s, l, table, index, truth)
			}
		}
		known := s
		known.Table, known.Index = table, index
		for range 20 {
			x := d.reading(s)
			a, e := sextant.Read(s, x)
			b, f := sextant.Read(known, x)
			if e != api.OK || f != api.OK || !inside(b, a) {
				t.Fatalf("Read(%v): %v, %d with %v, but %v, %d with %v", x, a, e, s, b, f, known)
			}
			if a != b {
				narrower++
			}
		}
		class, fault, e := sextant.Class(s)
		c, g, f := sextant.Class(known)
		if e != api.OK || f != api.OK || c > class || g > fault {
			t.Fatalf("Class: %d, %d with %v, but %d, %d with %v", class, fault, s, c, g, known)
		}
		if g < fault {
			better++
		}
	}
	if narrower < 500 || better < 50 {
		t.Errorf("%d readings are narrower, %d faults less", narrower, better)
	}
}

// P5.9: each end of what Trial returns is so in some truth: with a correction, or an index error, that is known to be this end, the trials can be so; with one beyond it they cannot.
func TestTrialEnds(t *testing.T) {
	var d dice
	beyond := 0
	can := func(s api.Sextant, l []api.SextantTrial) bool {
		_, _, e := sextant.Trial(s, l)
		return e == api.OK
	}
	for range 200 {
		s := d.large()
		l := d.trials(s, d.truth(s), d.from(1, api.SextantTrials), 0)
		table, index, e := sextant.Trial(s, l)
		if e != api.OK {
			t.Fatalf("Trial(%v, %v): %d", s, l, e)
		}
		check := func(before, after api.Span, know func(s *api.Sextant, x api.Span)) {
			t.Helper()
			for _, end := range []struct{ at, out int }{{after.Low, after.Low - 1}, {after.High, after.High + 1}} {
				known := s
				known.Table = slices.Clone(s.Table)
				if know(&known, to(end.at, end.at)); !can(known, l) {
					t.Fatalf("Trial(%v, %v): %v, %v, but not %d", s, l, table, index, end.at)
				}
				if know(&known, to(end.out, end.out)); has(before, end.out) {
					if beyond++; can(known, l) {
						t.Fatalf("Trial(%v, %v): %v, %v, but also %d", s, l, table, index, end.out)
					}
				}
			}
		}
		check(s.Index, index, func(s *api.Sextant, x api.Span) { s.Index = x })
		for k := range table {
			check(s.Table[k], table[k], func(s *api.Sextant, x api.Span) { s.Table[k] = x })
		}
	}
	if beyond < 100 {
		t.Errorf("only %d ends that are narrower than before", beyond)
	}
}

// P5.10: trials that are named cannot all be so; without any one of them the others can.
func TestFalseTrials(t *testing.T) {
	var d dice
	var fewest [4]int
	for range 500 {
		s := d.large()
		l := d.trials(s, d.truth(s), api.SextantTrials, d.from(0, 400))
		list, e := sextant.False(s, l)
		_, _, f := sextant.Trial(s, l)
		if (e == api.ErrNone) != (f == api.OK) || e != api.OK && e != api.ErrNone || (e == api.OK) != (len(list) > 0) {
			t.Fatalf("False(%v, %v): %v, %d, but Trial %d", s, l, list, e, f)
		}
		fewest[min(len(list), 3)]++
		if e != api.OK {
			continue
		}
		set := 0
		for i, number := range list {
			if number < 0 || number >= len(l) || i > 0 && number <= list[i-1] {
				t.Fatalf("False(%v, %v): %v", s, l, list)
			}
			set |= 1 << number
		}
		named, _ := chosen(l, set)
		if _, _, e := sextant.Trial(s, named); e != api.ErrSextantFalse {
			t.Fatalf("False(%v, %v): %v, but they can be so: %d", s, l, list, e)
		}
		for _, number := range list {
			others, _ := chosen(l, set&^(1<<number))
			if _, _, e := sextant.Trial(s, others); len(others) > 0 && e != api.OK {
				t.Fatalf("False(%v, %v): %v, but without %d: %d", s, l, list, number, e)
			}
		}
	}
	if fewest[0] < 50 || fewest[1] < 50 || fewest[2] < 50 {
		t.Errorf("so many have 0, 1, 2 .. that cannot be so: %v", fewest)
	}
}

// P5.11: three parts that fit err by at most the bound at each angle, whatever each of them errs by; no cheaper three do.
func TestStock(t *testing.T) {
	var d dice
	found := 0
	for range 400 {
		stock, bound := d.stock(api.SextantParts), d.from(4, 26)
		parts, price, e := sextant.Assemble(stock, bound)
		if e != api.OK {
			continue
		}
		found++
		for range 20 {
			errs := make([]int, len(stock[0].Errors))
			cost := 0
			for kind, i := range parts {
				if stock[i].Kind != kind {
					t.Fatalf("Assemble(%v, %d): %v", stock, bound, parts)
				}
				cost += stock[i].Price
				for k, err := range d.picks(stock[i].Errors) {
					errs[k] += err
				}
			}
			if cost != price || slices.Max(errs) > bound || slices.Min(errs) < -bound {
				t.Fatalf("Assemble(%v, %d): %v, %d, but %v, %d", stock, bound, parts, price, errs, cost)
			}
		}
		if _, cost := slowAssemble(stock, bound); cost != price {
			t.Fatalf("Assemble(%v, %d): %v, %d, but some for %d", stock, bound, parts, price, cost)
		}
	}
	if found < 100 {
		t.Errorf("only %d stocks with parts that fit", found)
	}
}

// P1: each call ends soon, with as many angles, index errors, trials, pairs and parts as there can be.
func TestLargest(t *testing.T) {
	s := farSextant(12, 45818)
	var l []api.SextantTrial
	for k := range api.SextantTrials {
		l = append(l, trial(k*s.Step, 63, k*s.Step))
	}
	if table, index, e := sextant.Trial(s, l); !slices.Equal(table, s.Table) || index != to(-1380, 1380) || e != api.OK {
		t.Errorf("Trial: %v, %v, %d", table, index, e)
	}
	if list, e := sextant.False(s, l); len(list) != 0 || e != api.ErrNone {
		t.Errorf("False: %v, %d", list, e)
	}
	l[7].True = 510000
	if list, e := sextant.False(s, l); !slices.Equal(list, []int{7}) || e != api.OK {
		t.Errorf("False: %v, %d", list, e)
	}
	l[6] = trial(l[6].At, 0, l[6].At-1900)
	l[7] = trial(l[7].At, 0, l[7].At+1900)
	if list, e := sextant.False(s, l); !slices.Equal(list, []int{6, 7}) || e != api.OK {
		t.Errorf("False: %v, %d", list, e)
	}
	suns := slices.Repeat([]api.SextantSun{{On: 2000, Off: 2000}}, api.SextantSuns)
	if index, disc, e := sextant.Index(s, to(1, api.SextantDisc), suns); index != to(-60, 60) || disc != to(1940, 2060) || e != api.OK {
		t.Errorf("Index: %v, %v, %d", index, disc, e)
	}
}
