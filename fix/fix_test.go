package fix_test

import (
	"math"
	"reflect"
	"slices"
	"testing"

	"octant/api"
	"octant/fix"
)

// to returns a span.
func to(low, high int) api.Span { return api.Span{Low: low, High: high} }

// at returns a point.
func at(east, north int) api.FixPoint { return api.FixPoint{East: east, North: north} }

func sight(a, b int, value api.Span) api.FixStep {
	return api.FixStep{Kind: api.FixSight, A: a, B: b, Value: value}
}

func run(east, north api.Span) api.FixStep {
	return api.FixStep{Kind: api.FixRun, East: east, North: north}
}

func long(clocks ...api.Span) api.FixStep {
	return api.FixStep{Kind: api.FixLong, Clocks: clocks}
}

// logOf returns a log.
func logOf(east, north api.Span, steps ...api.FixStep) api.FixLog {
	return api.FixLog{East: east, North: north, Steps: steps}
}

// allSea returns a log whose ship can be anywhere at first.
func allSea(steps ...api.FixStep) api.FixLog { return logOf(to(0, 59), to(0, 59), steps...) }

// shopLog, shopAsks, shopCarried and shopTable are those of the document's examples.
func shopLog() api.FixLog {
	return logOf(to(10, 12), to(10, 12), run(to(5, 6), to(0, 0)), sight(1, 1, to(27, 28)), long(to(16, 17), to(17, 30), to(40, 50)))
}

func shopAsks() []api.FixNext {
	return []api.FixNext{{A: 1}, {B: 1}, {B: 1, Wrong: 1}}
}

func shopCarried() []api.FixCarried {
	return []api.FixCarried{{Shows: 90, Error: to(4, 6)}, {Shows: 84, Error: to(0, 1)}, {Shows: 60}}
}

func shopTable() []api.FixMoon {
	return []api.FixMoon{{At: 0, Distance: 1000}, {At: 180, Distance: 1090}, {At: 360, Distance: 1270}}
}

func shopInput() input {
	return input{
		log: shopLog(), track: []api.FixPoint{at(11, 10), at(17, 10)}, run: 1, end: at(17, 11), asks: shopAsks(),
		local: to(100, 102), carried: shopCarried(), table: shopTable(), seen: to(1010, 1020),
	}
}

// withLog returns the log of the examples with a change.
func withLog(change func(l *api.FixLog)) api.FixLog {
	l := shopLog()
	change(&l)
	return l
}

// withStep returns the log of the examples with a change of a step.
func withStep(i int, change func(s *api.FixStep)) api.FixLog {
	return withLog(func(l *api.FixLog) { change(&l.Steps[i]) })
}

func validLogs() []api.FixLog {
	list := []api.FixLog{
		shopLog(),
		{},
		{Steps: []api.FixStep{}},
		allSea(),
		logOf(to(59, 59), to(0, 0)),
		logOf(to(0, 0), to(59, 59), slices.Repeat([]api.FixStep{run(to(-60, 60), to(-60, 60))}, 12)...),
		allSea(run(to(0, 0), to(0, 0)), run(to(60, 60), to(-60, -60))),
		allSea(long(to(-10000, 10000), to(-10000, -10000), to(10000, 10000))),
		allSea(long(api.Span{}, api.Span{}, api.Span{})),
		allSea(sight(0, 1, api.Span{})),
	}
	for _, x := range []int{-20, -1, 1, 20} {
		list = append(list, allSea(sight(x, 0, to(-10000, 10000))), allSea(sight(0, x, to(10000, 10000))), allSea(sight(x, 20, to(-10000, -10000))))
	}
	for i := range 3 {
		list = append(list, withStep(i, func(s *api.FixStep) {
			if s.Kind != api.FixLong {
				s.Clocks = []api.Span{}
			}
		}))
	}
	return list
}

// wrongSpans returns what is no span from low to high.
func wrongSpans(low, high int) []api.Span {
	return []api.Span{
		to(low+1, low), to(high, high-1), to(high, low), to(low-1, high), to(low, high+1), to(low-1, low-1), to(high+1, high+1),
		to(math.MinInt, math.MaxInt), to(math.MaxInt, math.MinInt), to(math.MinInt, math.MinInt), to(math.MaxInt, math.MaxInt),
		to(low, math.MaxInt), to(math.MinInt, high),
	}
}

// numbersOff returns numbers that are not from low to high.
func numbersOff(low, high int) []int {
	return []int{low - 1, high + 1, math.MinInt, math.MaxInt}
}

func invalidLogs() []api.FixLog {
	list := []api.FixLog{
		allSea(slices.Repeat([]api.FixStep{run(to(0, 0), to(0, 0))}, 13)...),
		allSea(slices.Repeat([]api.FixStep{sight(1, 0, to(0, 59))}, 13)...),
		allSea(sight(0, 0, to(0, 0))),
		allSea(long()),
		allSea(long(to(0, 0))),
		allSea(long(to(0, 0), to(0, 0))),
		allSea(long(to(0, 0), to(0, 0), to(0, 0), to(0, 0))),
		allSea(sight(1, 0, to(0, 59)), api.FixStep{}),
	}
	for _, s := range wrongSpans(0, 59) {
		list = append(list, logOf(s, to(0, 59)), logOf(to(0, 59), s), logOf(s, s))
	}
	for _, s := range wrongSpans(-10000, 10000) {
		list = append(list, allSea(sight(1, 1, s)), allSea(long(s, to(0, 9), to(0, 9))), allSea(long(to(0, 9), s, to(0, 9))), allSea(long(to(0, 9), to(0, 9), s)))
	}
	for _, s := range wrongSpans(-60, 60) {
		list = append(list, allSea(run(s, to(0, 0))), allSea(run(to(0, 0), s)))
	}
	for _, x := range numbersOff(-20, 20) {
		list = append(list, allSea(sight(x, 1, to(0, 0))), allSea(sight(1, x, to(0, 0))), allSea(sight(x, 0, to(0, 0))), allSea(sight(x, x, to(0, 0))))
	}
	for _, kind := range []int{0, -1, 4, 5, math.MinInt, math.MaxInt} {
		for i := range 3 {
			list = append(list, withStep(i, func(s *api.FixStep) { s.Kind = kind }))
		}
	}
	return append(list, logsWithMore()...)
}

// logsWithMore returns those with a step that has a field, or a kind, of another one.
func logsWithMore() []api.FixLog {
	var list []api.FixLog
	for _, change := range []func(s *api.FixStep){
		func(s *api.FixStep) { s.A = 1 },
		func(s *api.FixStep) { s.B = -1 },
		func(s *api.FixStep) { s.Value = to(0, 1) },
		func(s *api.FixStep) { s.Value = to(-1, 0) },
	} {
		list = append(list, withStep(0, change), withStep(2, change))
	}
	for _, change := range []func(s *api.FixStep){
		func(s *api.FixStep) { s.East = to(0, 1) },
		func(s *api.FixStep) { s.East = to(-1, 0) },
		func(s *api.FixStep) { s.North = to(0, 1) },
		func(s *api.FixStep) { s.North = to(1, 0) },
	} {
		list = append(list, withStep(1, change), withStep(2, change))
	}
	for _, clocks := range [][]api.Span{{to(0, 0)}, {{}, {}, {}}} {
		change := func(s *api.FixStep) { s.Clocks = clocks }
		list = append(list, withStep(0, change), withStep(1, change))
	}
	for i := range 3 {
		for _, kind := range []int{api.FixSight, api.FixRun, api.FixLong} {
			if kind != shopLog().Steps[i].Kind {
				list = append(list, withStep(i, func(s *api.FixStep) { s.Kind = kind }))
			}
		}
	}
	return list
}

// P8.1
func TestCheck(t *testing.T) {
	for _, l := range validLogs() {
		if e := fix.Check(l); e != api.OK {
			t.Errorf("Check(%v): %d", l, e)
		}
	}
	for _, l := range invalidLogs() {
		if e := fix.Check(l); e != api.ErrFix {
			t.Errorf("Check(%v): %d", l, e)
		}
	}
}

// lostLogs returns valid logs that have no true track.
func lostLogs() []api.FixLog {
	return []api.FixLog{
		allSea(sight(1, 0, to(-5, -1))),
		allSea(sight(1, 1, to(119, 10000))),
		allSea(run(to(60, 60), to(0, 0))),
		logOf(to(50, 59), to(0, 0), run(to(10, 20), to(0, 0))),
		logOf(to(0, 59), to(0, 9), run(to(0, 0), to(-20, -10))),
		logOf(to(0, 0), to(0, 0), sight(0, 1, to(1, 1)), run(to(0, 1), to(0, 1))),
		logOf(to(0, 0), to(0, 0), run(to(0, 1), to(0, 1)), sight(0, 1, to(2, 2)), run(to(0, 0), to(0, 0))),
		logOf(to(0, 5), to(0, 5), long(to(0, 2), to(3, 5), to(6, 8))),
		logOf(to(0, 5), to(0, 5), run(to(1, 1), to(0, 0)), long(to(0, 0), to(0, 0), to(0, 6))),
		// it was off the sea for a while
		logOf(to(55, 59), to(5, 9), run(to(10, 10), to(0, 0)), run(to(-10, -10), to(0, 0))),
		// both sights hold somewhere, but nowhere at once
		allSea(sight(1, 0, to(0, 29)), sight(1, 0, to(30, 59))),
	}
}

// P8.1, P8.2, P8.3: the error of the log comes first, then that of what is asked, and then that there is none; no result comes with an error.
func TestOrderOfErrors(t *testing.T) {
	wrong := input{track: []api.FixPoint{at(-1, 60)}, run: -1, end: at(60, -1)}
	for _, c := range logCalls() {
		for _, l := range invalidLogs() {
			for _, in := range []input{shopInput(), wrong} {
				in.log = l
				if r := c.do(in); !reflect.DeepEqual(r, result{e: api.ErrFix}) {
					t.Errorf("%s with %v: %v", c.name, l, r)
				}
			}
		}
	}
	for _, l := range append(lostLogs(), shopLog()) {
		for _, asks := range invalidAsks() {
			if which, worst, e := fix.Next(l, asks); which != 0 || worst != 0 || e != api.ErrFixAsk {
				t.Errorf("Next(%v, %v): %d, %d, %d", l, asks, which, worst, e)
			}
		}
		for _, run := range []int{-1, runsOf(l) + 1, math.MinInt, math.MaxInt} {
			if points, e := fix.Was(l, run); points != nil || e != api.ErrFixAsk {
				t.Errorf("Was(%v, %d): %v, %d", l, run, points, e)
			}
		}
	}
}

// runsOf returns how many runs a log has.
func runsOf(l api.FixLog) int {
	count := 0
	for _, s := range l.Steps {
		if s.Kind == api.FixRun {
			count++
		}
	}
	return count
}

// P8.1
func TestTrue(t *testing.T) {
	for _, x := range []struct {
		l     api.FixLog
		track []api.FixPoint
		want  bool
	}{
		{shopLog(), []api.FixPoint{at(11, 10), at(17, 10)}, true},
		{shopLog(), []api.FixPoint{at(12, 10), at(17, 10)}, true},
		{shopLog(), []api.FixPoint{at(12, 11), at(17, 11)}, true},
		// at first it was elsewhere
		{shopLog(), []api.FixPoint{at(13, 10), at(18, 10)}, false},
		{shopLog(), []api.FixPoint{at(11, 9), at(17, 9)}, false},
		// it ran otherwise
		{shopLog(), []api.FixPoint{at(10, 10), at(17, 10)}, false},
		{shopLog(), []api.FixPoint{at(11, 10), at(17, 11)}, false},
		// a sight, or the clocks, do not hold
		{shopLog(), []api.FixPoint{at(12, 12), at(17, 12)}, false},
		{shopLog(), []api.FixPoint{at(11, 11), at(16, 11)}, false},
		{shopLog(), []api.FixPoint{at(12, 10), at(18, 10)}, false},
		// no track of the log
		{shopLog(), nil, false},
		{shopLog(), []api.FixPoint{}, false},
		{shopLog(), []api.FixPoint{at(11, 10)}, false},
		{shopLog(), []api.FixPoint{at(17, 10)}, false},
		{shopLog(), []api.FixPoint{at(11, 10), at(17, 10), at(17, 10)}, false},
		{shopLog(), make([]api.FixPoint, 100), false},
		{shopLog(), []api.FixPoint{at(math.MinInt, 10), at(17, 10)}, false},
		{shopLog(), []api.FixPoint{at(11, 10), at(17, math.MaxInt)}, false},
		{shopLog(), []api.FixPoint{at(math.MaxInt, math.MinInt), at(math.MinInt, math.MaxInt)}, false},
		{allSea(), nil, false},
		{allSea(), []api.FixPoint{at(0, 0)}, true},
		{allSea(), []api.FixPoint{at(59, 59)}, true},
		{allSea(), []api.FixPoint{at(60, 59)}, false},
		{allSea(), []api.FixPoint{at(59, 60)}, false},
		{allSea(), []api.FixPoint{at(-1, 0)}, false},
		{allSea(), []api.FixPoint{at(0, -1)}, false},
		{allSea(), []api.FixPoint{at(0, 0), at(0, 0)}, false},
		// each point is one of the sea
		{allSea(run(to(-1, 1), to(-1, 1))), []api.FixPoint{at(59, 0), at(58, 1)}, true},
		{allSea(run(to(-1, 1), to(-1, 1))), []api.FixPoint{at(59, 0), at(60, 1)}, false},
		{allSea(run(to(-1, 1), to(-1, 1))), []api.FixPoint{at(59, 0), at(59, -1)}, false},
		// a step holds where the ship was then
		{allSea(sight(1, 0, to(5, 5)), run(to(3, 3), to(0, 0)), sight(1, 0, to(8, 8))), []api.FixPoint{at(5, 7), at(8, 7)}, true},
		{allSea(sight(1, 0, to(8, 8)), run(to(3, 3), to(0, 0)), sight(1, 0, to(5, 5))), []api.FixPoint{at(5, 7), at(8, 7)}, false},
		{allSea(long(to(5, 5), to(5, 5), to(8, 8)), run(to(3, 3), to(0, 0)), long(to(8, 8), to(5, 5), to(8, 8))), []api.FixPoint{at(5, 7), at(8, 7)}, true},
		{allSea(long(to(5, 5), to(8, 8), to(8, 8)), run(to(3, 3), to(0, 0))), []api.FixPoint{at(5, 7), at(8, 7)}, false},
		{allSea(run(to(3, 3), to(0, 0)), run(to(0, 0), to(-2, -2))), []api.FixPoint{at(5, 7), at(8, 7), at(8, 5)}, true},
		{allSea(run(to(3, 3), to(0, 0)), run(to(0, 0), to(-2, -2))), []api.FixPoint{at(5, 7), at(5, 5), at(8, 5)}, false},
		{allSea(sight(-20, 20, to(-1180, -1180))), []api.FixPoint{at(59, 0)}, true},
		{allSea(sight(-20, 20, to(-1180, -1180))), []api.FixPoint{at(0, 59)}, false},
	} {
		if truth, e := fix.True(x.l, x.track); truth != x.want || e != api.OK {
			t.Errorf("True(%v, %v): %v, %d", x.l, x.track, truth, e)
		}
	}
}

// P8.1: of any log and any track near a true one.
func TestTrueAll(t *testing.T) {
	var d dice
	count := 0
	for range 3000 {
		l, track := d.sailed(d.from(0, 12), d.from(0, 3))
		if truth, e := fix.True(l, track); !truth || e != api.OK {
			t.Fatalf("True(%v, %v): %v, %d", l, track, truth, e)
		}
		near := slices.Clone(track)
		for range d.from(1, 2) {
			p := &near[d.from(0, len(near)-1)]
			p.East, p.North = p.East+d.from(-1, 1), p.North+d.from(-1, 1)
		}
		truth, e := fix.True(l, near)
		if truth != slowTrue(l, near) || e != api.OK {
			t.Fatalf("True(%v, %v): %v, %d", l, near, truth, e)
		}
		if truth {
			count++
		}
	}
	if count < 500 || count > 2500 {
		t.Errorf("%d of the tracks are true", count)
	}
}

// P8.2
func TestWhere(t *testing.T) {
	for _, x := range []struct {
		l    api.FixLog
		want []api.FixPoint
	}{
		{shopLog(), []api.FixPoint{at(17, 10), at(17, 11)}},
		{logOf(to(3, 4), to(7, 8)), []api.FixPoint{at(3, 7), at(3, 8), at(4, 7), at(4, 8)}},
		{api.FixLog{}, []api.FixPoint{at(0, 0)}},
		{logOf(to(59, 59), to(59, 59)), []api.FixPoint{at(59, 59)}},
		// what is known later tells of what was before, and the other way round
		{logOf(to(0, 9), to(5, 5), run(to(2, 3), to(0, 0)), sight(1, 0, to(4, 4)), run(to(-1, 0), to(1, 1))), []api.FixPoint{at(3, 6), at(4, 6)}},
		{logOf(to(0, 9), to(5, 5), sight(1, 0, to(8, 20)), run(to(-8, -8), to(-5, -4))), []api.FixPoint{at(0, 0), at(0, 1), at(1, 0), at(1, 1)}},
		// the ship stays on the sea
		{logOf(to(58, 59), to(0, 1), run(to(0, 9), to(-9, -1))), []api.FixPoint{at(58, 0), at(59, 0)}},
		{logOf(to(57, 59), to(0, 0), run(to(1, 1), to(0, 0)), run(to(-1, -1), to(0, 0))), []api.FixPoint{at(57, 0), at(58, 0)}},
		{logOf(to(0, 0), to(0, 2), run(to(59, 59), to(59, 60))), []api.FixPoint{at(59, 59)}},
		// lines of position
		{logOf(to(0, 3), to(0, 3), sight(1, -1, to(2, 3))), []api.FixPoint{at(2, 0), at(3, 0), at(3, 1)}},
		{logOf(to(0, 3), to(0, 3), sight(2, 3, to(7, 8))), []api.FixPoint{at(1, 2), at(2, 1)}},
		{logOf(to(0, 3), to(0, 3), sight(0, -20, to(-60, -40)), sight(1, 0, to(1, 1))), []api.FixPoint{at(1, 2), at(1, 3)}},
		// two of three clocks, or all
		{logOf(to(0, 9), to(5, 5), long(to(0, 3), to(3, 6), to(6, 9))), []api.FixPoint{at(3, 5), at(6, 5)}},
		{logOf(to(0, 9), to(5, 5), long(to(0, 2), to(2, 4), to(2, 2))), []api.FixPoint{at(2, 5)}},
		{logOf(to(0, 9), to(5, 5), long(to(-10000, 0), to(9, 10000), to(-10000, 10000))), []api.FixPoint{at(0, 5), at(9, 5)}},
		{logOf(to(0, 9), to(5, 5), long(to(-10000, -1), to(4, 4), to(4, 5))), []api.FixPoint{at(4, 5)}},
	} {
		if l, e := fix.Where(x.l); !slices.Equal(l, x.want) || e != api.OK {
			t.Errorf("Where(%v): %v, %d, not %v", x.l, l, e, x.want)
		}
	}
}

// P8.2: all of the sea, in order, and the longest logs.
func TestWhereMost(t *testing.T) {
	var all []api.FixPoint
	for east := range 60 {
		for north := range 60 {
			all = append(all, at(east, north))
		}
	}
	anywhere := slices.Repeat([]api.FixStep{run(to(-60, 60), to(-60, 60))}, 12)
	for _, l := range []api.FixLog{
		allSea(),
		allSea(anywhere...),
		logOf(to(0, 0), to(59, 59), anywhere[:1]...),
		logOf(to(0, 0), to(59, 59), run(to(0, 59), to(-59, 0))),
		logOf(to(0, 0), to(0, 0), slices.Repeat([]api.FixStep{run(to(0, 5), to(0, 5))}, 12)...),
	} {
		if points, e := fix.Where(l); !slices.Equal(points, all) || e != api.OK {
			t.Errorf("Where(%v): %d points, %d", l, len(points), e)
		}
		if points, e := fix.Was(l, 0); len(points) == 0 || e != api.OK {
			t.Errorf("Was(%v, 0): %d points, %d", l, len(points), e)
		}
	}
	short := logOf(to(0, 0), to(0, 0), slices.Repeat([]api.FixStep{run(to(0, 5), to(0, 4))}, 12)...)
	if points, e := fix.Where(short); len(points) != 60*49 || e != api.OK {
		t.Errorf("Where(%v): %d points, %d", short, len(points), e)
	}
	for k := range 13 {
		// it can have been wherever the runs before lead, as it can have gone on from there
		if points, e := fix.Was(short, k); len(points) != min(5*k+1, 60)*(4*k+1) || e != api.OK {
			t.Errorf("Was(%v, %d): %d points, %d", short, k, len(points), e)
		}
	}
}

// P8.2
func TestWas(t *testing.T) {
	chase := logOf(to(0, 9), to(5, 5), run(to(2, 3), to(0, 0)), sight(1, 0, to(4, 4)), run(to(-1, 0), to(1, 1)))
	for _, x := range []struct {
		l    api.FixLog
		run  int
		want []api.FixPoint
		e    api.Errno
	}{
		{shopLog(), 0, []api.FixPoint{at(11, 10), at(11, 11), at(12, 10), at(12, 11)}, api.OK},
		{shopLog(), 1, []api.FixPoint{at(17, 10), at(17, 11)}, api.OK},
		{shopLog(), 2, nil, api.ErrFixAsk},
		{shopLog(), -1, nil, api.ErrFixAsk},
		{shopLog(), math.MinInt, nil, api.ErrFixAsk},
		{shopLog(), math.MaxInt, nil, api.ErrFixAsk},
		{logOf(to(3, 3), to(7, 8)), 0, []api.FixPoint{at(3, 7), at(3, 8)}, api.OK},
		{logOf(to(3, 3), to(7, 8)), 1, nil, api.ErrFixAsk},
		{chase, 0, []api.FixPoint{at(1, 5), at(2, 5)}, api.OK},
		{chase, 1, []api.FixPoint{at(4, 5)}, api.OK},
		{chase, 2, []api.FixPoint{at(3, 6), at(4, 6)}, api.OK},
		// it went on, so that it cannot have been too far
		{logOf(to(50, 59), to(0, 0), run(to(5, 5), to(0, 0))), 0, []api.FixPoint{at(50, 0), at(51, 0), at(52, 0), at(53, 0), at(54, 0)}, api.OK},
		{logOf(to(56, 57), to(0, 0), run(to(0, 1), to(0, 0)), run(to(2, 2), to(0, 0))), 1, []api.FixPoint{at(56, 0), at(57, 0)}, api.OK},
		{logOf(to(56, 58), to(0, 0), run(to(0, 1), to(0, 0)), run(to(2, 2), to(0, 0))), 0, []api.FixPoint{at(56, 0), at(57, 0)}, api.OK},
	} {
		if l, e := fix.Was(x.l, x.run); !slices.Equal(l, x.want) || e != x.e {
			t.Errorf("Was(%v, %d): %v, %d, not %v", x.l, x.run, l, e, x.want)
		}
	}
}

// P8.2: no track is true.
func TestLost(t *testing.T) {
	for _, l := range lostLogs() {
		if points, e := fix.Where(l); points != nil || e != api.ErrNone {
			t.Errorf("Where(%v): %v, %d", l, points, e)
		}
		for run := range runsOf(l) + 1 {
			if points, e := fix.Was(l, run); points != nil || e != api.ErrNone {
				t.Errorf("Was(%v, %d): %v, %d", l, run, points, e)
			}
		}
		for _, p := range []api.FixPoint{at(0, 0), at(59, 59), at(60, 60)} {
			if track, e := fix.Track(l, p); track != nil || e != api.ErrNone {
				t.Errorf("Track(%v, %v): %v, %d", l, p, track, e)
			}
		}
		if which, worst, e := fix.Next(l, shopAsks()); which != 0 || worst != 0 || e != api.ErrNone {
			t.Errorf("Next(%v): %d, %d, %d", l, which, worst, e)
		}
	}
}

// checkTrack checks that there is a true track to a point.
func checkTrack(t *testing.T, l api.FixLog, end api.FixPoint) {
	t.Helper()
	track, e := fix.Track(l, end)
	if e != api.OK || len(track) != runsOf(l)+1 || track[len(track)-1] != end || !slowTrue(l, track) {
		t.Fatalf("Track(%v, %v): %v, %d", l, end, track, e)
	}
	if truth, e := fix.True(l, track); !truth || e != api.OK {
		t.Fatalf("True(%v, %v): %v, %d", l, track, truth, e)
	}
}

// P8.2
func TestTrack(t *testing.T) {
	checkTrack(t, shopLog(), at(17, 10))
	checkTrack(t, shopLog(), at(17, 11))
	checkTrack(t, allSea(), at(0, 0))
	checkTrack(t, allSea(), at(59, 59))
	for _, l := range validLogs() {
		points, e := fix.Where(l)
		if e == api.ErrNone {
			continue
		}
		checkTrack(t, l, points[0])
		checkTrack(t, l, points[len(points)-1])
	}
	for _, p := range []api.FixPoint{at(16, 11), at(17, 9), at(17, 12), at(18, 10), at(12, 10), at(-1, 10), at(17, -1), at(60, 10), at(17, 60), at(math.MinInt, math.MaxInt), at(math.MaxInt, math.MinInt)} {
		if track, e := fix.Track(shopLog(), p); track != nil || e != api.ErrNone {
			t.Errorf("Track(%v): %v, %d", p, track, e)
		}
	}
}

// P8.2, P8.6: by all points of the sea, of any log.
func TestPlacesAll(t *testing.T) {
	var d dice
	lost := 0
	for range 500 {
		l := d.anyLog()
		want := slowWas(l)
		last := want[len(want)-1]
		e := api.OK
		if len(last) == 0 {
			e = api.ErrNone
			lost++
		}
		if points, f := fix.Where(l); !slices.Equal(points, last) || e != f {
			t.Fatalf("Where(%v): %v, %d, not %v", l, points, f, last)
		}
		for k := range want {
			if points, f := fix.Was(l, k); !slices.Equal(points, want[k]) || e != f {
				t.Fatalf("Was(%v, %d): %v, %d, not %v", l, k, points, f, want[k])
			}
		}
		for range 10 {
			p := at(d.from(0, 59), d.from(0, 59))
			if slices.Contains(last, p) {
				continue
			}
			if track, f := fix.Track(l, p); track != nil || f != api.ErrNone {
				t.Fatalf("Track(%v, %v): %v, %d", l, p, track, f)
			}
		}
	}
	if lost < 50 || lost > 250 {
		t.Errorf("%d logs have no true track", lost)
	}
}

func invalidAsks() [][]api.FixNext {
	list := [][]api.FixNext{
		nil,
		{},
		slices.Repeat([]api.FixNext{{A: 1}}, 9),
		{{}},
		{{Wrong: 1}},
		{{A: 1}, {}},
	}
	for _, x := range numbersOff(-20, 20) {
		list = append(list, []api.FixNext{{A: x}}, []api.FixNext{{B: x}}, []api.FixNext{{A: 1}, {A: x, B: 1}}, []api.FixNext{{A: 1, B: x}, {A: 1}})
	}
	for _, x := range numbersOff(0, 1000) {
		list = append(list, []api.FixNext{{A: 1, Wrong: x}}, []api.FixNext{{A: 1}, {B: 1, Wrong: x}})
	}
	return list
}

// P8.3
func TestNext(t *testing.T) {
	square := logOf(to(0, 3), to(0, 2))
	for _, x := range []struct {
		l            api.FixLog
		asks         []api.FixNext
		which, worst int
	}{
		{shopLog(), shopAsks(), 1, 1},
		{shopLog(), shopAsks()[:1], 0, 2},
		{shopLog(), shopAsks()[2:], 0, 2},
		// of several the first one
		{shopLog(), []api.FixNext{{B: 1}, {B: -1}, {A: 1, B: 1}}, 0, 1},
		{shopLog(), []api.FixNext{{A: 1}, {A: 1, B: 1}, {B: 1}}, 1, 1},
		{shopLog(), []api.FixNext{{B: 1, Wrong: 1}, {A: 1}}, 0, 2},
		{square, []api.FixNext{{A: 1}}, 0, 3},
		{square, []api.FixNext{{A: 1}, {B: 1}}, 0, 3},
		{square, []api.FixNext{{B: 1}, {A: 1}}, 1, 3},
		{square, []api.FixNext{{A: 1, B: 3}}, 0, 2},
		{square, []api.FixNext{{A: 1, B: 4}}, 0, 1},
		{square, []api.FixNext{{A: -20, B: 19}}, 0, 1},
		// a value may be between those of two points, so that both are left
		{square, []api.FixNext{{A: 2, Wrong: 1}}, 0, 6},
		{square, []api.FixNext{{A: 3, Wrong: 1}}, 0, 3},
		{square, []api.FixNext{{A: 1, Wrong: 1}}, 0, 9},
		{square, []api.FixNext{{A: 1, Wrong: 2}, {A: 1, Wrong: 1000}}, 0, 12},
		{square, []api.FixNext{{A: 1, Wrong: 1000}, {A: 1, Wrong: 2}}, 0, 12},
		{square, []api.FixNext{{A: 20, Wrong: 9}}, 0, 3},
		{square, []api.FixNext{{A: 20, Wrong: 29}}, 0, 9},
		{square, []api.FixNext{{A: 20, Wrong: 30}}, 0, 12},
		{allSea(), []api.FixNext{{A: 20, B: 20, Wrong: 1000}, {A: 1, B: 1}, {A: -1, B: 1}, {A: 20}, {B: 20, Wrong: 9}, {B: 20, Wrong: 10}, {A: 20, B: 1}, {A: 20, B: 20}}, 6, 3},
		{allSea(), []api.FixNext{{B: -20, Wrong: 1000}}, 0, 3600},
		{allSea(), []api.FixNext{{A: -20, Wrong: 580}}, 0, 3540},
		{allSea(), []api.FixNext{{A: 1, B: 1, Wrong: 1}}, 0, 178},
	} {
		if which, worst, e := fix.Next(x.l, x.asks); which != x.which || worst != x.worst || e != api.OK {
			t.Errorf("Next(%v, %v): %d, %d, %d, not %d, %d", x.l, x.asks, which, worst, e, x.which, x.worst)
		}
	}
}

// P8.3: by all values.
func TestNextAll(t *testing.T) {
	var d dice
	places := map[int]int{}
	for range 200 {
		l, _ := d.sailed(d.from(0, 8), d.from(0, 3))
		asks := d.asks()
		points := slowWas(l)
		which, worst := slowNext(asks, points[len(points)-1])
		if a, b, e := fix.Next(l, asks); a != which || b != worst || e != api.OK {
			t.Fatalf("Next(%v, %v): %d, %d, %d, not %d, %d", l, asks, a, b, e, which, worst)
		}
		places[which]++
	}
	for k := range 4 {
		if places[k] < 3 {
			t.Errorf("the sight %d is the best one only %d times", k, places[k])
		}
	}
}

func clock(shows, low, high int) api.FixCarried {
	return api.FixCarried{Shows: shows, Error: to(low, high)}
}

// P8.4
func TestLongitudes(t *testing.T) {
	for _, x := range []struct {
		local api.Span
		l     []api.FixCarried
		want  []api.Span
		e     api.Errno
	}{
		{to(100, 102), shopCarried(), []api.Span{to(16, 18)}, api.OK},
		{to(100, 102), shopCarried()[:2], []api.Span{to(16, 18)}, api.OK},
		{to(100, 102), shopCarried()[1:], nil, api.ErrNone},
		// a longitude alone, just shared or just not
		{to(100, 100), []api.FixCarried{clock(90, 0, 5), clock(85, 0, 5)}, []api.Span{to(15, 15)}, api.OK},
		{to(100, 100), []api.FixCarried{clock(90, 0, 5), clock(84, 0, 5)}, nil, api.ErrNone},
		{to(7, 7), []api.FixCarried{clock(7, 0, 0), clock(9, 2, 2)}, []api.Span{to(0, 0)}, api.OK},
		// a clock that is fast shows too much
		{to(50, 50), []api.FixCarried{clock(60, 3, 3), clock(50, -7, -7)}, []api.Span{to(-7, -7)}, api.OK},
		// several spans, and such as adjoin, overlap, or lie in each other
		{to(0, 0), []api.FixCarried{clock(0, 40, 50), clock(0, 0, 10), clock(0, 45, 60), clock(0, -5, 3)}, []api.Span{to(0, 3), to(45, 50)}, api.OK},
		{to(0, 0), []api.FixCarried{clock(0, 0, 10), clock(0, 0, 4), clock(0, 5, 10)}, []api.Span{to(0, 10)}, api.OK},
		{to(0, 0), []api.FixCarried{clock(0, 0, 10), clock(0, 0, 4), clock(0, 6, 10)}, []api.Span{to(0, 4), to(6, 10)}, api.OK},
		{to(0, 0), []api.FixCarried{clock(0, 0, 20), clock(0, 0, 20), clock(0, 5, 10), clock(0, 15, 30)}, []api.Span{to(0, 20)}, api.OK},
		{to(0, 0), []api.FixCarried{clock(0, 0, 10), clock(0, 10, 20), clock(0, 20, 30), clock(0, 30, 40)}, []api.Span{to(10, 10), to(20, 20), to(30, 30)}, api.OK},
		// the farthest numbers
		{to(0, 100000), []api.FixCarried{clock(0, -100000, 100000), clock(100000, -100000, 100000)}, []api.Span{to(-100000, 100000)}, api.OK},
		{to(100000, 100000), []api.FixCarried{clock(0, 100000, 100000), clock(0, -100000, 100000)}, []api.Span{to(200000, 200000)}, api.OK},
		{to(0, 0), slices.Repeat([]api.FixCarried{clock(100000, -100000, -100000)}, 8), []api.Span{to(-200000, -200000)}, api.OK},
	} {
		if l, e := fix.Longitudes(x.local, x.l); !slices.Equal(l, x.want) || e != x.e {
			t.Errorf("Longitudes(%v, %v): %v, %d, not %v", x.local, x.l, l, e, x.want)
		}
	}
}

// P8.4: by all longitudes.
func TestLongitudesAll(t *testing.T) {
	var d dice
	count := map[int]int{}
	for range 1000 {
		right := d.from(0, 4)
		local, l := d.carried(d.from(max(right, 2), 8), right, d.from(0, 100), d.from(-60, 60))
		want := slowLongitudes(local, l)
		e := api.OK
		if len(want) == 0 {
			e = api.ErrNone
		}
		if spans, f := fix.Longitudes(local, l); !slices.Equal(spans, want) || e != f {
			t.Fatalf("Longitudes(%v, %v): %v, %d, not %v", local, l, spans, f, want)
		}
		count[len(want)]++
	}
	for k := range 4 {
		if count[k] < 10 {
			t.Errorf("only %d have %d spans", count[k], k)
		}
	}
}

func invalidCarried() [][]api.FixCarried {
	list := [][]api.FixCarried{nil, {}, shopCarried()[:1], slices.Repeat(shopCarried(), 3)}
	for _, shows := range numbersOff(0, 100000) {
		list = append(list, append(shopCarried(), clock(shows, 0, 0)), append([]api.FixCarried{clock(shows, 0, 0)}, shopCarried()...))
	}
	for _, s := range wrongSpans(-100000, 100000) {
		list = append(list, append(shopCarried(), clock(0, s.Low, s.High)), append([]api.FixCarried{clock(0, s.Low, s.High)}, shopCarried()...))
	}
	return list
}

// P8.4
func TestNoLongitudes(t *testing.T) {
	for _, l := range invalidCarried() {
		if spans, e := fix.Longitudes(to(100, 102), l); spans != nil || e != api.ErrFixClock {
			t.Errorf("Longitudes(%v): %v, %d", l, spans, e)
		}
	}
	for _, s := range wrongSpans(0, 100000) {
		for _, l := range [][]api.FixCarried{shopCarried(), nil} {
			if spans, e := fix.Longitudes(s, l); spans != nil || e != api.ErrFixClock {
				t.Errorf("Longitudes(%v, %v): %v, %d", s, l, spans, e)
			}
		}
	}
}

// table returns one of the moon, by pairs of a time and a distance.
func table(numbers ...int) []api.FixMoon {
	var l []api.FixMoon
	for i := 0; i < len(numbers); i += 2 {
		l = append(l, api.FixMoon{At: numbers[i], Distance: numbers[i+1]})
	}
	return l
}

// P8.4
func TestMoon(t *testing.T) {
	falling := table(0, 1270, 180, 1090, 360, 1000)
	uneven := table(10, 100, 13, 101, 14, 200)
	for _, x := range []struct {
		table []api.FixMoon
		seen  api.Span
		want  api.Span
		e     api.Errno
	}{
		{shopTable(), to(1010, 1020), to(20, 40), api.OK},
		{shopTable(), to(1089, 1092), to(178, 182), api.OK},
		{shopTable(), to(1000, 1270), to(0, 360), api.OK},
		{shopTable(), to(0, 1000000), to(0, 360), api.OK},
		{shopTable(), to(0, 1000), to(0, 0), api.OK},
		{shopTable(), to(1270, 9999), to(360, 360), api.OK},
		{shopTable(), to(1090, 1090), to(180, 180), api.OK},
		{shopTable(), to(0, 999), api.Span{}, api.ErrNone},
		{shopTable(), to(1271, 9999), api.Span{}, api.ErrNone},
		{shopTable(), to(0, 0), api.Span{}, api.ErrNone},
		{falling, to(1089, 1092), to(178, 182), api.OK},
		{falling, to(1010, 1020), to(320, 340), api.OK},
		{falling, to(0, 1000000), to(0, 360), api.OK},
		{falling, to(0, 1000), to(360, 360), api.OK},
		{falling, to(1270, 9999), to(0, 0), api.OK},
		{falling, to(1090, 1090), to(180, 180), api.OK},
		{falling, to(0, 999), api.Span{}, api.ErrNone},
		{falling, to(1271, 9999), api.Span{}, api.ErrNone},
		// the distance is a third at each time, or jumps over what is seen
		{uneven, to(100, 100), to(10, 10), api.OK},
		{uneven, to(100, 101), to(10, 13), api.OK},
		{uneven, to(101, 101), to(13, 13), api.OK},
		{uneven, to(101, 199), to(13, 13), api.OK},
		{uneven, to(102, 199), api.Span{}, api.ErrNone},
		{uneven, to(102, 200), to(14, 14), api.OK},
		{table(0, 0, 7, 3), to(1, 1), api.Span{}, api.ErrNone},
		{table(0, 0, 7, 3), to(1, 2), to(3, 4), api.OK},
		{table(0, 0, 7, 3), to(0, 2), to(0, 4), api.OK},
		{table(0, 0, 7, 3), to(1, 3), to(3, 7), api.OK},
		{table(0, 3, 7, 0), to(1, 1), api.Span{}, api.ErrNone},
		{table(0, 3, 7, 0), to(1, 2), to(3, 4), api.OK},
		{table(0, 3, 7, 0), to(0, 2), to(3, 7), api.OK},
		{table(0, 3, 7, 0), to(1, 3), to(0, 4), api.OK},
		// the farthest numbers
		{table(0, 0, 100000, 1000000), to(5, 15), to(1, 1), api.OK},
		{table(0, 0, 100000, 1000000), to(1, 9), api.Span{}, api.ErrNone},
		{table(0, 1000000, 100000, 0), to(0, 999985), to(2, 100000), api.OK},
		{table(0, 0, 99999, 1, 100000, 1000000), to(1, 1), to(99999, 99999), api.OK},
		{table(0, 0, 100000, 1), to(0, 0), to(0, 0), api.OK},
		{table(0, 1, 100000, 0), to(0, 1), to(0, 100000), api.OK},
		{table(0, 0, 1, 1, 2, 2, 3, 3, 4, 4, 5, 5, 6, 6, 7, 7, 8, 8, 9, 9, 10, 10, 11, 11), to(3, 11), to(3, 11), api.OK},
	} {
		if s, e := fix.Moon(x.table, x.seen); s != x.want || e != x.e {
			t.Errorf("Moon(%v, %v): %v, %d, not %v", x.table, x.seen, s, e, x.want)
		}
	}
}

// P8.4: by all times.
func TestMoonAll(t *testing.T) {
	var d dice
	none := 0
	for range 4000 {
		l := d.table([]int{3, 30}[d.from(0, 1)], []int{3, 30, 300}[d.from(0, 2)])
		low, high := l[0].Distance, l[len(l)-1].Distance
		seen := d.span(max(min(low, high)-2, 0), max(low, high)+2, d.from(0, 20))
		want, found := slowMoon(l, seen)
		e := api.OK
		if !found {
			e = api.ErrNone
			none++
		}
		if s, f := fix.Moon(l, seen); s != want || e != f {
			t.Fatalf("Moon(%v, %v): %v, %d, not %v", l, seen, s, f, want)
		}
	}
	if none < 400 || none > 2000 {
		t.Errorf("%d have no time", none)
	}
}

func invalidTables() [][]api.FixMoon {
	list := [][]api.FixMoon{
		nil,
		{},
		table(0, 5),
		table(0, 0, 1, 1, 2, 2, 3, 3, 4, 4, 5, 5, 6, 6, 7, 7, 8, 8, 9, 9, 10, 10, 11, 11, 12, 12),
		table(5, 10, 5, 20),
		table(5, 10, 4, 20),
		table(5, 10, 6, 20, 6, 30),
		table(5, 10, 7, 20, 6, 30),
		table(5, 10, 6, 10),
		table(5, 10, 6, 20, 7, 20),
		table(5, 10, 6, 10, 7, 20),
		table(5, 10, 6, 20, 7, 19),
		table(5, 10, 6, 5, 7, 6),
		table(5, 20, 6, 10, 7, 10),
		table(5, 10, 6, 20, 7, 15, 8, 30),
	}
	for _, x := range numbersOff(0, 100000) {
		list = append(list, table(x, 10, 5, 20), table(5, 10, x, 20), table(x, 10, x, 20))
	}
	for _, x := range numbersOff(0, 1000000) {
		list = append(list, table(5, x, 6, 10), table(5, 10, 6, x), table(5, 10, 6, 20, 7, x))
	}
	return list
}

// P8.4
func TestNoMoon(t *testing.T) {
	for _, l := range invalidTables() {
		for _, seen := range []api.Span{to(1010, 1020), to(0, 1000000), to(1, 0)} {
			if s, e := fix.Moon(l, seen); s != (api.Span{}) || e != api.ErrFixMoon {
				t.Errorf("Moon(%v, %v): %v, %d", l, seen, s, e)
			}
		}
	}
	for _, seen := range wrongSpans(0, 1000000) {
		if s, e := fix.Moon(shopTable(), seen); s != (api.Span{}) || e != api.ErrFixMoon {
			t.Errorf("Moon with %v: %v, %d", seen, s, e)
		}
	}
}
