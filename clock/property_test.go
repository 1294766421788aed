package clock_test

import (
	"math"
	"math/bits"
	"reflect"
	"slices"
	"testing"

	"octant/api"
	"octant/clock"
)

// roomy returns a list with room behind it, so that an append to it would show.
func roomy[T any](l []T) []T {
	big := make([]T, len(l), len(l)+4)
	copy(big, l)
	return big
}

// roomyInput returns the input of the examples with a watch, all of whose lists have room behind them.
func roomyInput(w api.ClockWatching) input {
	in := shopInput()
	in.watch = w
	in.watch.First, in.watch.Second = roomy(w.First), roomy(w.Second)
	in.clock.Temps, in.clock.Rates = roomy(in.clock.Temps), roomy(in.clock.Rates)
	in.days = roomy(in.days)
	in.truth.Rates, in.truth.Temps = roomy(in.truth.Rates), roomy(in.truth.Temps)
	in.trial = roomy(in.trial)
	for i := range in.trial {
		in.trial[i].Weeks = roomy(in.trial[i].Weeks)
	}
	return in
}

// behind returns what lies in, and behind, the lists of an input.
func behind(in input) []any {
	list := []any{
		in.clock.Temps[:cap(in.clock.Temps)], in.clock.Rates[:cap(in.clock.Rates)], in.days[:cap(in.days)],
		in.truth.Rates[:cap(in.truth.Rates)], in.truth.Temps[:cap(in.truth.Temps)], in.trial[:cap(in.trial)],
		in.watch.First[:cap(in.watch.First)], in.watch.Second[:cap(in.watch.Second)],
	}
	for _, x := range in.trial {
		list = append(list, x.Weeks[:cap(x.Weeks)])
	}
	return list
}

// someWatches returns watches in which none, one, or two must have jumped.
func someWatches() []api.ClockWatching {
	return []api.ClockWatching{
		shopWatch(),
		withWatch(func(w *api.ClockWatching) { w.First[3] = 6 }),
		withWatch(func(w *api.ClockWatching) { w.Second[3] = 30 }),
	}
}

// P7.6: no call changes an argument, nor what lies behind it.
func TestArgumentsAreRead(t *testing.T) {
	for _, c := range allCalls() {
		for _, w := range someWatches() {
			in, want := roomyInput(w), roomyInput(w)
			c.do(in)
			if !reflect.DeepEqual(behind(in), behind(want)) {
				t.Errorf("%s changes its arguments: %v", c.name, in)
			}
		}
	}
}

// spoil changes all that lies in, and behind, lists.
func spoil[T any](wrong T, lists ...[]T) {
	for _, list := range lists {
		list = list[:cap(list)]
		for i := range list {
			list[i] = wrong
		}
	}
}

// spoilInput changes all that the lists of an input have.
func spoilInput(in input) {
	for _, x := range in.trial {
		spoil(-77, x.Weeks)
	}
	spoil(entry("spoilt"), in.trial)
	spoil(to(-77, -77), in.clock.Rates, in.days)
	spoil(-77, in.clock.Temps, in.truth.Rates, in.truth.Temps, in.watch.First, in.watch.Second)
}

// P7.6: results share no memory with arguments, nor with what another call returns, nor with each other.
func TestResultsAreNew(t *testing.T) {
	for _, c := range allCalls() {
		for _, w := range someWatches() {
			in := roomyInput(w)
			r, want := c.do(in), c.do(roomyInput(w))
			spoilInput(in)
			if !reflect.DeepEqual(r, want) {
				t.Errorf("%s: its result changes with its arguments: %v, not %v", c.name, r, want)
			}
			other := roomyInput(w)
			r = c.do(other)
			spoil(-77, r.list)
			if !slices.Equal(r.numbers, want.numbers) {
				t.Errorf("%s: the lists of its result share memory: %v", c.name, r.numbers)
			}
			spoil(-77, r.numbers)
			spoil(to(-77, -77), r.spans)
			if !reflect.DeepEqual(behind(other), behind(roomyInput(w))) {
				t.Errorf("%s: its arguments change with its result: %v", c.name, other)
			}
			if again := c.do(roomyInput(w)); !reflect.DeepEqual(again, want) {
				t.Errorf("%s: another result after a change of the first one: %v, not %v", c.name, again, want)
			}
		}
	}
}

// anyInput returns an input of numbers that may be valid or not.
func anyInput(d *dice, clocks []api.Clock, watches []api.ClockWatching) input {
	numbers := []int{math.MinInt, -1000000001, -10000000, -100000, -1001, -60, -1, 0, 1, 2, 5, 10, 15, 20, 25, 30, 59, 60, 61, 250, 550, 850, 1000, 100001, 10000000, 1000000000, math.MaxInt}
	number := func() int { return numbers[d.from(0, len(numbers)-1)] }
	maybe := func(x *int) {
		if d.from(0, 7) == 0 {
			*x = number()
		}
	}
	in := roomyInput(watches[d.from(0, len(watches)-1)])
	if d.from(0, 1) == 0 {
		in.clock = clocks[d.from(0, len(clocks)-1)]
	}
	maybe(&in.temp)
	maybe(&in.day)
	for i := range in.days {
		maybe(&in.days[i].Low)
		maybe(&in.days[i].High)
		maybe(&in.truth.Temps[i])
	}
	for i := range in.truth.Rates {
		maybe(&in.truth.Rates[i])
		maybe(&in.trial[i].Weeks[d.from(0, 3)])
	}
	maybe(&in.truth.Age)
	maybe(&in.truth.Error)
	maybe(&in.watch.Wrong)
	for i := range in.watch.First {
		maybe(&in.watch.First[i])
	}
	in.days, in.truth.Rates, in.truth.Temps = in.days[:d.from(0, 2)], in.truth.Rates[:d.from(2, 3)], in.truth.Temps[:d.from(0, 2)]
	in.trial, in.watch.Second = in.trial[:d.from(0, 3)], in.watch.Second[:max(len(in.watch.Second)-d.from(0, 1), 0)]
	return in
}

// P1: no call panics, and no result comes with an error.
func TestAnyArguments(t *testing.T) {
	var d dice
	clocks := slices.Concat(validClocks(), invalidClocks())
	watches := slices.Concat(someWatches(), someWatches(), invalidWatches())
	for range 6000 {
		in := anyInput(&d, clocks, watches)
		for _, c := range allCalls() {
			if r := c.do(in); r.e != api.OK && !reflect.DeepEqual(r, result{e: r.e}) {
				t.Fatalf("%s with an error: %v", c.name, r)
			}
		}
	}
}

// P2: a call has the same result when it comes again, behind others; a nil list is as an empty one (R3).
func TestSameAgain(t *testing.T) {
	for _, c := range allCalls() {
		for _, w := range someWatches() {
			first := c.do(roomyInput(w))
			for _, other := range allCalls() {
				for _, v := range someWatches() {
					other.do(roomyInput(v))
				}
			}
			if again := c.do(roomyInput(w)); !reflect.DeepEqual(first, again) {
				t.Errorf("%s: %v, then %v", c.name, first, again)
			}
		}
		for _, own := range []api.Clock{shopClock(), {}} {
			none, empty := input{clock: own, trial: []api.ClockEntry{{Name: "a"}}}, input{clock: own, trial: []api.ClockEntry{{Name: "a", Weeks: []int{}}}}
			if own.Temps == nil {
				empty.clock.Temps, empty.clock.Rates, none.trial, empty.trial = []int{}, []api.Span{}, nil, []api.ClockEntry{}
			}
			empty.days, empty.truth = []api.Span{}, api.ClockTruth{Rates: []int{}, Temps: []int{}}
			empty.watch.First, empty.watch.Second = []int{}, []int{}
			if a, b := c.do(none), c.do(empty); !reflect.DeepEqual(a, b) {
				t.Errorf("%s: %v with nil lists, %v with empty ones", c.name, a, b)
			}
		}
	}
}

// farthest returns the truth in which the error behind each day is the farthest, with all at this end.
func farthest(c api.Clock, days []api.Span, end func(s api.Span) int) api.ClockTruth {
	x := api.ClockTruth{Age: end(c.Age), Error: end(c.Error)}
	for _, s := range c.Rates {
		x.Rates = append(x.Rates, end(s))
	}
	for _, s := range days {
		best := s.Low
		for temp := s.Low; temp <= s.High; temp++ {
			a, b := slowRate(c.Temps, x.Rates, temp), slowRate(c.Temps, x.Rates, best)
			if end(to(min(a, b), max(a, b))) == a {
				best = temp
			}
		}
		x.Temps = append(x.Temps, best)
	}
	return x
}

// P7.7: the error behind each day lies in the cone, in any truth, and each end of it is so in some truth.
func TestTheCone(t *testing.T) {
	var d dice
	for range 600 {
		c := d.large()
		days := d.voyage(c, d.from(1, api.ClockDays), d.from(0, 60))
		cone, e := clock.Cone(c, days)
		if len(cone) != len(days) || e != api.OK {
			t.Fatalf("Cone(%v, %v): %v, %d", c, days, cone, e)
		}
		for range 10 {
			truth := d.truth(c, days)
			errors, e := clock.Errors(c, days, truth)
			if !slices.Equal(errors, slowErrors(c, truth)) || e != api.OK {
				t.Fatalf("Errors(%v, %v, %v): %v, %d", c, days, truth, errors, e)
			}
			for k, x := range errors {
				if !has(cone[k], x) {
					t.Fatalf("Cone(%v, %v): %v, but in %v it is %v", c, days, cone, truth, errors)
				}
			}
		}
		low, e := clock.Errors(c, days, farthest(c, days, func(s api.Span) int { return s.Low }))
		high, f := clock.Errors(c, days, farthest(c, days, func(s api.Span) int { return s.High }))
		for k, s := range cone {
			if e != api.OK || f != api.OK || s != to(low[k], high[k]) {
				t.Fatalf("Cone(%v, %v): %v, not %v to %v", c, days, cone, low, high)
			}
		}
	}
}

// trial returns one of clocks with so many weeks, whose numbers are often the same.
func (d *dice) trial() []api.ClockEntry {
	var l []api.ClockEntry
	names := []string{"a", "b", "c", "a-", "a1", "aa", "ab", "ba", "z", "z-9", "z9", "abcdefghijklmnop"}
	weeks, wide := d.from(2, api.ClockWeeks), d.from(0, 4)
	for _, i := range d.order(len(names))[:d.from(1, api.ClockTrials)] {
		x := entry(names[i])
		for range weeks {
			x.Weeks = append(x.Weeks, d.from(-wide, wide))
		}
		l = append(l, x)
	}
	return l
}

// numberOf returns the trial number of a clock.
func numberOf(t *testing.T, weeks []int) int {
	t.Helper()
	_, numbers, e := clock.Rank([]api.ClockEntry{entry("a", weeks...)})
	if len(numbers) != 1 || e != api.OK {
		t.Fatalf("Rank of %v: %v, %d", weeks, numbers, e)
	}
	return numbers[0]
}

// P7.8: a trial number follows from the weeks alone, and is 0 just if they are all alike; it is the same if all grow by the same, in the opposite order, and with other signs.
func TestTrialNumber(t *testing.T) {
	var d dice
	alike := 0
	for range 1500 {
		wide, count := d.from(0, 2)*d.from(0, 500), d.from(2, api.ClockWeeks)
		var weeks, more, back, turned []int
		by := d.from(-100000+wide, 100000-wide)
		for range count {
			x := d.from(-wide, wide)
			weeks, more, turned = append(weeks, x), append(more, x+by), append(turned, -x)
		}
		for _, x := range weeks {
			back = append([]int{x}, back...)
		}
		n := numberOf(t, weeks)
		if n != slowNumber(weeks) || (n == 0) != (slices.Min(weeks) == slices.Max(weeks)) {
			t.Fatalf("the trial number of %v: %d", weeks, n)
		}
		for _, other := range [][]int{more, back, turned} {
			if m := numberOf(t, other); m != n {
				t.Fatalf("the trial number of %v is %d, but %d of %v", weeks, n, m, other)
			}
		}
		if n == 0 {
			alike++
		}
	}
	if alike < 100 || alike > 1000 {
		t.Errorf("%d with weeks that are all alike", alike)
	}
}

// P7.8: the ranks do not depend on the order of the clocks.
func TestRanks(t *testing.T) {
	var d dice
	same := 0
	for range 1000 {
		l := d.trial()
		order, numbers, e := clock.Rank(l)
		wantOrder, wantNumbers := slowRank(l)
		if !slices.Equal(order, wantOrder) || !slices.Equal(numbers, wantNumbers) || e != api.OK {
			t.Fatalf("Rank(%v): %v, %v, %d, not %v, %v", l, order, numbers, e, wantOrder, wantNumbers)
		}
		var mixed []api.ClockEntry
		from := d.order(len(l))
		for _, i := range from {
			mixed = append(mixed, l[i])
		}
		again, others, e := clock.Rank(mixed)
		for k := range order {
			if e != api.OK || from[again[k]] != order[k] || others[k] != numbers[from[k]] {
				t.Fatalf("Rank(%v): %v, %v; but %v, %v, %d of %v", l, order, numbers, again, others, e, mixed)
			}
			if k > 0 && numbers[order[k-1]] == numbers[order[k]] {
				same++
			}
		}
	}
	if same < 1000 {
		t.Errorf("only %d clocks with the same number", same)
	}
}

// jumpers returns the sets of the fewest jumpers, and how many these are.
func jumpers(t *testing.T, w api.ClockWatching) (sets []int, count int) {
	t.Helper()
	sets, e := clock.Jumped(w)
	if len(sets) == 0 || e != api.OK {
		t.Fatalf("Jumped(%v): %v, %d", w, sets, e)
	}
	return sets, bits.OnesCount(uint(sets[0]))
}

// P7.9: if just one clock has jumped, either no jumper is needed, or it is among those that are named alone; if none jumped, none is named.
func TestTheJump(t *testing.T) {
	var d dice
	needed := 0
	for range 3000 {
		days, wrong, rate := d.from(2, api.ClockWatch), d.from(0, api.ClockWrong), d.from(0, api.ClockRate)
		if d.from(0, 1) == 0 {
			wrong, rate = d.from(0, 3), d.from(0, 20)
		}
		checkWatch(t, d.watched(days, wrong, rate, 0, 0), []int{0}, -1)
		k := d.from(0, 2)
		w := d.watched(days, wrong, rate, 1<<k, d.from(1, 5*rate+5*wrong+1))
		l, count := jumpers(t, w)
		if count == 0 {
			continue
		}
		if !slices.Contains(l, 1<<k) {
			t.Fatalf("Jumped(%v): %v, though %d jumped", w, l, k)
		}
		needed++
		for _, set := range l {
			if bits.OnesCount(uint(set)) != 1 {
				t.Fatalf("Jumped(%v): %v, though %d jumped", w, l, k)
			}
		}
	}
	if needed < 1000 || needed > 2500 {
		t.Errorf("%d watches need a jumper", needed)
	}
}

// P7.9: a clock that does anything day by day is a jumper too.
func TestAnyJumper(t *testing.T) {
	var d dice
	for range 500 {
		w := d.watched(d.from(2, api.ClockWatch), d.from(0, 3), d.from(0, 20), 0, 0)
		k := d.from(0, 2)
		for day := range w.First {
			x := d.from(-1000000, 1000000)
			switch k {
			case 0:
				w.First[day] += x
			case 1:
				w.First[day] -= x
				w.Second[day] += x
			case 2:
				w.Second[day] -= x
			}
		}
		if l, count := jumpers(t, w); count > 0 && !slices.Contains(l, 1<<k) {
			t.Fatalf("Jumped(%v): %v, though %d jumped", w, l, k)
		}
	}
}

// inside reports whether a span lies in another one.
func inside(a, b api.Span) bool { return b.Low <= a.Low && a.High <= b.High }

// P7.10: with narrower spans no error's span is wider.
func TestNarrower(t *testing.T) {
	var d dice
	narrower := 0
	for range 1500 {
		c := d.large()
		days := d.voyage(c, d.from(1, api.ClockDays), d.from(0, 60))
		less, fewer := c, slices.Clone(days)
		less.Rates = slices.Clone(c.Rates)
		switch d.from(0, 3) {
		case 0:
			i := d.from(0, len(c.Rates)-1)
			less.Rates[i] = d.narrower(c.Rates[i])
		case 1:
			less.Age = d.narrower(c.Age)
		case 2:
			less.Error = d.narrower(c.Error)
		case 3:
			i := d.from(0, len(days)-1)
			fewer[i] = d.narrower(days[i])
		}
		cone, e := clock.Cone(c, days)
		after, f := clock.Cone(less, fewer)
		for k := range days {
			if e != api.OK || f != api.OK || !inside(after[k], cone[k]) {
				t.Fatalf("Cone(%v, %v): %v, %d; but %v, %d with %v, %v", c, days, cone, e, after, f, less, fewer)
			}
			if after[k] != cone[k] {
				narrower++
			}
		}
	}
	if narrower < 10000 {
		t.Errorf("only %d spans are narrower", narrower)
	}
}

// P7.10, P7.5: with more days of a watch no fewer clocks must have jumped; and some must from that day on that Since tells.
func TestMoreDays(t *testing.T) {
	var d dice
	var count [3]int
	for range 1000 {
		w := d.watched(api.ClockWatch, d.from(0, 3), d.from(0, 20), d.from(0, 7), d.from(1, 120))
		since, e := clock.Since(w)
		if e != api.OK {
			since = api.ClockWatch
		}
		before := 0
		for days := 2; days <= len(w.First); days++ {
			l, now := jumpers(t, firstDays(w, days))
			if now < before || (now > 0) != (days > since) {
				t.Fatalf("Jumped(%v) on the first %d days: %v; Since: %d, %d", w, days, l, since, e)
			}
			before = now
		}
		if e != api.OK && e != api.ErrNone || (e == api.OK) != (before > 0) {
			t.Fatalf("Since(%v): %d, %d", w, since, e)
		}
		count[before]++
	}
	if slices.Min(count[:]) < 100 {
		t.Errorf("so many without jumpers, with one, with two: %v", count)
	}
}

// P7.10: with wider spans, or comparisons that can be more wrong, no more clocks must have jumped.
func TestWiderWatch(t *testing.T) {
	var d dice
	fewer := 0
	for range 1000 {
		w := d.watched(d.from(2, api.ClockWatch), d.from(0, 3), d.from(0, 20), d.from(0, 7), d.from(1, 120))
		wider := w
		wider.Wrong += d.from(0, 3)
		k := d.from(0, 2)
		wider.Rates[k] = to(w.Rates[k].Low-d.from(0, 9), w.Rates[k].High+d.from(0, 9))
		a, m := jumpers(t, w)
		b, n := jumpers(t, wider)
		if n > m || m == n && len(b) < len(a) {
			t.Fatalf("Jumped(%v): %v; but %v of %v", w, a, b, wider)
		}
		if n < m {
			fewer++
		}
	}
	if fewer < 50 {
		t.Errorf("only %d need fewer jumpers", fewer)
	}
}
