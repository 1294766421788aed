package fix_test

import (
	"math"
	"reflect"
	"slices"
	"testing"

	"octant/api"
	"octant/fix"
)

// roomy returns a list with room behind it, so that an append to it would show.
func roomy[T any](l []T) []T {
	big := make([]T, len(l), len(l)+4)
	copy(big, l)
	return big
}

// roomyInput returns the input of the examples with a log, all of whose lists have room behind them.
func roomyInput(l api.FixLog) input {
	in := shopInput()
	in.log = l
	in.log.Steps = roomy(l.Steps)
	for i := range in.log.Steps {
		in.log.Steps[i].Clocks = roomy(in.log.Steps[i].Clocks)
	}
	in.track, in.asks, in.carried, in.table = roomy(in.track), roomy(in.asks), roomy(in.carried), roomy(in.table)
	return in
}

// behind returns what lies in, and behind, the lists of an input.
func behind(in input) []any {
	list := []any{
		in.log.Steps[:cap(in.log.Steps)], in.track[:cap(in.track)], in.asks[:cap(in.asks)],
		in.carried[:cap(in.carried)], in.table[:cap(in.table)],
	}
	for _, x := range in.log.Steps {
		list = append(list, x.Clocks[:cap(x.Clocks)])
	}
	return list
}

// someLogs returns logs with one run, with none, with several, and one that has no true track.
func someLogs() []api.FixLog {
	return []api.FixLog{
		shopLog(),
		logOf(to(17, 18), to(10, 11), sight(1, 0, to(17, 17))),
		logOf(to(10, 12), to(10, 12), run(to(5, 6), to(0, 0)), sight(1, 1, to(27, 28)), run(to(-1, 1), to(-1, 1)), run(to(0, 0), to(0, 1)), long(to(0, 59), to(0, 59), to(-1, -1))),
		lostLogs()[0],
	}
}

// P8.5: no call changes an argument, nor what lies behind it.
func TestArgumentsAreRead(t *testing.T) {
	for _, c := range allCalls() {
		for _, l := range someLogs() {
			for _, rows := range [][]api.FixMoon{shopTable(), table(0, 1270, 180, 1090, 360, 1000)} {
				in, want := roomyInput(l), roomyInput(l)
				in.table, want.table = roomy(rows), roomy(rows)
				c.do(in)
				if !reflect.DeepEqual(behind(in), behind(want)) {
					t.Errorf("%s changes its arguments: %v", c.name, in)
				}
			}
		}
	}
}

// spoil changes all that lies in, and behind, a list.
func spoil[T any](wrong T, list []T) {
	list = list[:cap(list)]
	for i := range list {
		list[i] = wrong
	}
}

// spoilInput changes all that the lists of an input have.
func spoilInput(in input) {
	for _, x := range in.log.Steps {
		spoil(to(-77, -77), x.Clocks)
	}
	spoil(api.FixStep{Kind: -77}, in.log.Steps)
	spoil(at(-77, -77), in.track)
	spoil(api.FixNext{A: -77}, in.asks)
	spoil(clock(-77, 0, 0), in.carried)
	spoil(api.FixMoon{At: -77}, in.table)
}

// P8.5: results share no memory with arguments, nor with what another call returns.
func TestResultsAreNew(t *testing.T) {
	for _, c := range allCalls() {
		for _, l := range someLogs() {
			in := roomyInput(l)
			r, want := c.do(in), c.do(roomyInput(l))
			spoilInput(in)
			if !reflect.DeepEqual(r, want) {
				t.Errorf("%s: its result changes with its arguments: %v, not %v", c.name, r, want)
			}
			other := roomyInput(l)
			r = c.do(other)
			spoil(at(-77, -77), r.points)
			spoil(to(-77, -77), r.spans)
			if !reflect.DeepEqual(behind(other), behind(roomyInput(l))) {
				t.Errorf("%s: its arguments change with its result: %v", c.name, other)
			}
			if again := c.do(roomyInput(l)); !reflect.DeepEqual(again, want) {
				t.Errorf("%s: another result after a change of the first one: %v, not %v", c.name, again, want)
			}
		}
	}
}

// anyInput returns an input of numbers that may be valid or not.
func anyInput(d *dice, logs []api.FixLog) input {
	numbers := []int{math.MinInt, -1000001, -100001, -10001, -1001, -61, -60, -21, -1, 0, 1, 2, 3, 4, 10, 17, 20, 59, 60, 61, 1000, 10001, 100001, 1000001, math.MaxInt}
	maybe := func(l ...*int) {
		for _, x := range l {
			if d.from(0, 9) == 0 {
				*x = numbers[d.from(0, len(numbers)-1)]
			}
		}
	}
	in := roomyInput(logs[d.from(0, len(logs)-1)])
	if d.from(0, 1) == 0 {
		maybe(&in.log.East.Low, &in.log.North.High)
		for i := range in.log.Steps {
			s := &in.log.Steps[i]
			maybe(&s.Kind, &s.A, &s.B, &s.Value.Low, &s.East.Low, &s.North.High)
			for k := range s.Clocks {
				maybe(&s.Clocks[k].Low, &s.Clocks[k].High)
			}
		}
	}
	maybe(&in.run, &in.end.East, &in.end.North, &in.local.Low, &in.local.High, &in.seen.Low, &in.seen.High)
	for i := range in.track {
		maybe(&in.track[i].East, &in.track[i].North)
	}
	for i := range in.asks {
		maybe(&in.asks[i].A, &in.asks[i].B, &in.asks[i].Wrong)
	}
	for i := range in.carried {
		maybe(&in.carried[i].Shows, &in.carried[i].Error.Low, &in.carried[i].Error.High)
		maybe(&in.table[i].At, &in.table[i].Distance)
	}
	in.track, in.asks, in.carried, in.table = in.track[:d.from(0, 2)], in.asks[:d.from(0, 3)], in.carried[:d.from(0, 3)], in.table[:d.from(0, 3)]
	return in
}

// P1: no call panics, and no result comes with an error.
func TestAnyArguments(t *testing.T) {
	var d dice
	logs := slices.Concat(someLogs(), someLogs(), validLogs(), invalidLogs()[:20], lostLogs())
	for range 4000 {
		in := anyInput(&d, logs)
		for _, c := range allCalls() {
			if r := c.do(in); r.e != api.OK && !reflect.DeepEqual(r, result{e: r.e}) {
				t.Fatalf("%s with an error: %v", c.name, r)
			}
		}
	}
}

// P2: a call has the same result when it comes again, behind others; a nil list is as an empty one (R3).
func TestSameAgain(t *testing.T) {
	none := roomyInput(logOf(to(3, 4), to(7, 8)))
	empty := none
	none.log.Steps, none.track, none.asks, none.carried, none.table = nil, nil, nil, nil, nil
	empty.log.Steps, empty.track, empty.asks, empty.carried, empty.table = []api.FixStep{}, []api.FixPoint{}, []api.FixNext{}, []api.FixCarried{}, []api.FixMoon{}
	for _, c := range allCalls() {
		for _, l := range someLogs() {
			first := c.do(roomyInput(l))
			for _, other := range allCalls() {
				for _, x := range someLogs() {
					other.do(roomyInput(x))
				}
			}
			if again := c.do(roomyInput(l)); !reflect.DeepEqual(first, again) {
				t.Errorf("%s: %v, then %v", c.name, first, again)
			}
		}
		if a, b := c.do(none), c.do(empty); !reflect.DeepEqual(a, b) {
			t.Errorf("%s: %v with nil lists, %v with empty ones", c.name, a, b)
		}
	}
}

// where returns the points where the ship can be, of a log that has a true track.
func where(t *testing.T, l api.FixLog) []api.FixPoint {
	t.Helper()
	points, e := fix.Where(l)
	if len(points) == 0 || e != api.OK {
		t.Fatalf("Where(%v): %v, %d", l, points, e)
	}
	return points
}

// was returns the points where the ship can have been behind some runs, of a log that has a true track.
func was(t *testing.T, l api.FixLog, run int) []api.FixPoint {
	t.Helper()
	points, e := fix.Was(l, run)
	if len(points) == 0 || e != api.OK {
		t.Fatalf("Was(%v, %d): %v, %d", l, run, points, e)
	}
	return points
}

// P8.6: wherever the ship truly was, it is at one of the points; each point is the end of a true track.
func TestTheShip(t *testing.T) {
	var d dice
	points := 0
	for range 1000 {
		l, track := d.sailed(d.from(0, 12), d.from(0, 5))
		list := where(t, l)
		if !slices.Contains(list, track[len(track)-1]) {
			t.Fatalf("Where(%v): %v, but it went %v", l, list, track)
		}
		for k, p := range track {
			if !slices.Contains(was(t, l, k), p) {
				t.Fatalf("Was(%v, %d) lacks %v", l, k, p)
			}
		}
		if !slices.Equal(was(t, l, len(track)-1), list) {
			t.Fatalf("Where(%v): %v, but Was: %v", l, list, was(t, l, len(track)-1))
		}
		for _, p := range list[:min(len(list), 10)] {
			checkTrack(t, l, p)
		}
		checkTrack(t, l, track[len(track)-1])
		points += len(list)
	}
	if points < 10000 {
		t.Errorf("only %d points", points)
	}
}

// isPart reports whether all points of a list are in another one.
func isPart(l, of []api.FixPoint) bool {
	return !slices.ContainsFunc(l, func(p api.FixPoint) bool { return !slices.Contains(of, p) })
}

// P8.7: with one sight more no point is added, now or before.
func TestMoreSights(t *testing.T) {
	var d dice
	fewer := 0
	for range 700 {
		l, _ := d.sailed(d.from(0, 11), d.from(0, 3))
		more := l
		p := at(d.from(0, 59), d.from(0, 59))
		step := d.sight(p, 10)
		if d.from(0, 3) == 0 {
			step = d.long(p, 10)
		}
		more.Steps = slices.Insert(slices.Clone(l.Steps), d.from(0, len(l.Steps)), step)
		for k := range runsOf(l) + 1 {
			after, e := fix.Was(more, k)
			before := was(t, l, k)
			if e != api.OK && e != api.ErrNone || !isPart(after, before) {
				t.Fatalf("Was(%v, %d): %v, but %v with %v more", l, k, before, after, step)
			}
			if len(after) < len(before) {
				fewer++
			}
		}
		after, e := fix.Where(more)
		if e != api.OK && e != api.ErrNone || !isPart(after, where(t, l)) {
			t.Fatalf("Where(%v): %v with %v more", l, after, step)
		}
	}
	if fewer < 300 {
		t.Errorf("only %d lists are shorter", fewer)
	}
}

// through returns a track of a log that ends at a point behind some runs, and goes on from there, and whether there is one.
func through(l api.FixLog, runs int, p api.FixPoint) ([]api.FixPoint, bool) {
	early, late := l, logOf(to(p.East, p.East), to(p.North, p.North))
	seen := 0
	for i, s := range l.Steps {
		if s.Kind == api.FixRun {
			seen++
		}
		if seen > runs {
			early.Steps, late.Steps = l.Steps[:i], l.Steps[i:]
			break
		}
	}
	first, e := fix.Track(early, p)
	ends, f := fix.Where(late)
	if e != api.OK || f != api.OK {
		return nil, false
	}
	second, e := fix.Track(late, ends[0])
	if e != api.OK {
		return nil, false
	}
	return append(first, second[1:]...), true
}

// P8.7: a point where the ship was has a true track through it, and no other one has.
func TestThrough(t *testing.T) {
	var d dice
	on, off := 0, 0
	for range 400 {
		l, track := d.sailed(d.from(0, 12), d.from(0, 3))
		for k, p := range track {
			list := was(t, l, k)
			for range 4 {
				q := at(p.East+d.from(-2, 2), p.North+d.from(-2, 2))
				found, ok := through(l, k, q)
				if ok != slices.Contains(list, q) {
					t.Fatalf("Was(%v, %d): %v, but through %v: %v", l, k, list, q, found)
				}
				if !ok {
					off++
					continue
				}
				on++
				if truth, e := fix.True(l, found); !truth || e != api.OK || found[k] != q {
					t.Fatalf("True(%v, %v): %v, %d", l, found, truth, e)
				}
			}
		}
	}
	if on < 500 || off < 500 {
		t.Errorf("%d points have a track, %d have none", on, off)
	}
}

// P8.8: the next sight leaves at most its worst, whatever value it has; of every other sight some value leaves as many as that, or more.
func TestTheNextSight(t *testing.T) {
	var d dice
	for range 300 {
		l, _ := d.sailed(d.from(0, 8), d.from(0, 3))
		asks, points := d.asks(), where(t, l)
		which, worst, e := fix.Next(l, asks)
		if e != api.OK || which < 0 || which >= len(asks) {
			t.Fatalf("Next(%v, %v): %d, %d, %d", l, asks, which, worst, e)
		}
		for v := -4000; v <= 4000; v += d.from(1, 9) {
			if n := leaves(asks[which], v, points); n > worst {
				t.Fatalf("Next(%v, %v): %d, %d, but the value %d leaves %d", l, asks, which, worst, v, n)
			}
		}
		for i, x := range asks {
			other := slowWorst(x, points)
			if other < worst || i < which && other == worst || i == which && other != worst {
				t.Fatalf("Next(%v, %v): %d, %d, but the worst of %d is %d", l, asks, which, worst, i, other)
			}
		}
	}
}

// P8.8: when the next sight is taken, whatever it shows, the ship can be at no more points than its worst.
func TestNextTaken(t *testing.T) {
	var d dice
	for range 300 {
		l, track := d.sailed(d.from(0, 8), d.from(0, 3))
		asks := d.asks()
		which, worst, e := fix.Next(l, asks)
		if e != api.OK {
			t.Fatalf("Next(%v, %v): %d", l, asks, e)
		}
		x, end := asks[which], track[len(track)-1]
		value := x.A*end.East + x.B*end.North + d.from(-x.Wrong, x.Wrong)
		l.Steps = append(slices.Clone(l.Steps), sight(x.A, x.B, to(value-x.Wrong, value+x.Wrong)))
		if list := where(t, l); len(list) > worst || !slices.Contains(list, end) {
			t.Fatalf("the sight %v with %d leaves %v, more than %d", x, value, list, worst)
		}
	}
}

// P8.9: if two of three clocks are right, the ship is not lost by the third one, whatever it shows.
func TestThreeClocks(t *testing.T) {
	var d dice
	for range 2000 {
		l, track := d.sailed(d.from(0, 11), d.from(0, 3))
		x := track[len(track)-1].East
		clocks := []api.Span{d.around(x, -10000, 10000, 3), d.around(x, -10000, 10000, 3), d.span(-10000, 10000, []int{0, 20, 20000}[d.from(0, 2)])}
		d.mix(3, func(i, k int) { clocks[i], clocks[k] = clocks[k], clocks[i] })
		l.Steps = append(slices.Clone(l.Steps), long(clocks...))
		if list := where(t, l); !slices.Contains(list, track[len(track)-1]) {
			t.Fatalf("Where(%v): %v, but it went %v", l, list, track)
		}
	}
}

// hasAny reports whether a number lies in one of several spans.
func hasAny(l []api.Span, x int) bool {
	return slices.ContainsFunc(l, func(s api.Span) bool { return has(s, x) })
}

// P8.10: if at least two clocks are right, the true longitude agrees; with one clock more none is lost.
func TestTrueLongitude(t *testing.T) {
	var d dice
	gained := 0
	for range 3000 {
		longitude, right := d.from(-60, 60), d.from(2, 7)
		local, l := d.carried(d.from(right, 7), right, d.from(0, 100), longitude)
		spans, e := fix.Longitudes(local, l)
		if e != api.OK || !hasAny(spans, longitude) {
			t.Fatalf("Longitudes(%v, %v): %v, %d, but it is %d", local, l, spans, e, longitude)
		}
		_, other := d.carried(1, d.from(0, 1), d.from(0, 100), longitude)
		more, e := fix.Longitudes(local, slices.Insert(slices.Clone(l), d.from(0, len(l)), other[0]))
		if e != api.OK {
			t.Fatalf("Longitudes(%v, %v) with %v: %d", local, l, other, e)
		}
		for _, s := range spans {
			for x := s.Low; x <= s.High; x++ {
				if !hasAny(more, x) {
					t.Fatalf("Longitudes(%v, %v): %v, but %v with %v", local, l, spans, more, other)
				}
			}
		}
		if !slices.Equal(spans, more) {
			gained++
		}
	}
	if gained < 300 {
		t.Errorf("only %d have more longitudes", gained)
	}
}

// P8.10: the spans are increasing, and there are gaps between them, also with the farthest numbers.
func TestFewestSpans(t *testing.T) {
	var d dice
	several := 0
	for range 2000 {
		local := d.span(0, 100000, 20000)
		var l []api.FixCarried
		for range d.from(2, 8) {
			l = append(l, api.FixCarried{Shows: d.from(0, 100000), Error: d.span(-100000, 100000, 50000)})
		}
		spans, e := fix.Longitudes(local, l)
		if (e == api.OK) != (len(spans) > 0) || e != api.OK && e != api.ErrNone {
			t.Fatalf("Longitudes(%v, %v): %v, %d", local, l, spans, e)
		}
		for i, s := range spans {
			if s.Low > s.High || i > 0 && s.Low < spans[i-1].High+2 {
				t.Fatalf("Longitudes(%v, %v): %v", local, l, spans)
			}
			for _, x := range []int{s.Low - 1, s.Low, s.High, s.High + 1} {
				count := 0
				for _, c := range l {
					if has(to(local.Low-c.Shows+c.Error.Low, local.High-c.Shows+c.Error.High), x) {
						count++
					}
				}
				if (count >= 2) != has(s, x) {
					t.Fatalf("Longitudes(%v, %v): %v, but %d agrees with %d clocks", local, l, spans, x, count)
				}
			}
		}
		if len(spans) > 1 {
			several++
		}
	}
	if several < 200 {
		t.Errorf("only %d have several spans", several)
	}
}

// P8.11: the true time is in the span, whatever the distance was wrong by; a distance that is seen more exactly does not make it wider.
func TestTheMoon(t *testing.T) {
	var d dice
	narrower := 0
	for range 5000 {
		l := d.table([]int{5, 500, 8000}[d.from(0, 2)], []int{5, 500, 80000}[d.from(0, 2)])
		first, last := l[0].At, l[len(l)-1].At
		low, high := min(l[0].Distance, l[len(l)-1].Distance), max(l[0].Distance, l[len(l)-1].Distance)
		time := d.from(first, last)
		// the greatest whole distance that is not above that of the time
		under := low
		for step := 1 << 20; step > 0; step /= 2 {
			if under+step <= high && compareAt(l, time, under+step) >= 0 {
				under += step
			}
		}
		seen := to(max(under-d.from(0, 1000), 0), min(under+1+d.from(0, 1000), 1000000))
		times, e := fix.Moon(l, seen)
		if e != api.OK || !has(times, time) || times.Low < first || times.High > last {
			t.Fatalf("Moon(%v, %v): %v, %d, but it is %d", l, seen, times, e, time)
		}
		less := d.narrower(seen)
		inner, e := fix.Moon(l, less)
		if e == api.ErrNone {
			continue
		}
		if e != api.OK || inner.Low < times.Low || inner.High > times.High {
			t.Fatalf("Moon(%v, %v): %v, but %v, %d with %v", l, seen, times, inner, e, less)
		}
		if inner != times {
			narrower++
		}
	}
	if narrower < 1000 {
		t.Errorf("only %d spans are narrower", narrower)
	}
}
