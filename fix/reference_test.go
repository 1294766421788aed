package fix_test

import (
	"cmp"
	"slices"

	"octant/api"
	"octant/fix"
)

// The functions of this file say slowly what the document says, to check the package against.

// dice is a row of numbers that look as if by chance, the same ones each time.
type dice uint64

// from returns a number from low to high.
func (d *dice) from(low, high int) int {
	*d = *d*6364136223846793005 + 1442695040888963407
	return low + int(uint64(*d)>>33)%(high-low+1)
}

// span returns a span from low to high that is at most so wide.
func (d *dice) span(low, high, wide int) api.Span {
	x := d.from(low, high)
	return to(x, d.from(x, min(x+wide, high)))
}

// around returns a span from low to high in which a number lies, each of whose ends is at most so far from it.
func (d *dice) around(x, low, high, wide int) api.Span {
	return to(d.from(max(x-wide, low), x), d.from(x, min(x+wide, high)))
}

// narrower returns a span that lies in another one.
func (d *dice) narrower(s api.Span) api.Span {
	x := d.from(s.Low, s.High)
	return to(x, d.from(x, s.High))
}

// line returns the factors of one.
func (d *dice) line() (a, b int) {
	for a == 0 && b == 0 {
		most := []int{1, 3, 20}[d.from(0, 2)]
		a, b = d.from(-most, most), d.from(-most, most)
	}
	return a, b
}

// sight returns one that holds at a point.
func (d *dice) sight(p api.FixPoint, wide int) api.FixStep {
	a, b := d.line()
	return sight(a, b, d.around(a*p.East+b*p.North, -10000, 10000, wide*max(a, -a, b, -b)))
}

// long returns clocks of which at least two are right at a point, whatever the third one tells.
func (d *dice) long(p api.FixPoint, wide int) api.FixStep {
	l := []api.Span{d.around(p.East, -10000, 10000, wide), d.around(p.East, -10000, 10000, wide), d.span(-20, 80, 40)}
	if d.from(0, 3) == 0 {
		l[2] = d.span(-10000, 10000, 20000)
	}
	k := d.from(0, 2)
	l[k], l[2] = l[2], l[k]
	return long(l...)
}

// sailed returns a log of so many steps, and a true track of it.
func (d *dice) sailed(steps, wide int) (l api.FixLog, track []api.FixPoint) {
	p := at(d.from(0, 59), d.from(0, 59))
	l = api.FixLog{East: d.around(p.East, 0, 59, wide), North: d.around(p.North, 0, 59, wide)}
	track = []api.FixPoint{p}
	for range steps {
		switch d.from(0, 2) {
		case 0:
			l.Steps = append(l.Steps, d.sight(p, wide))
		case 1:
			q := at(d.from(max(p.East-20, 0), min(p.East+20, 59)), d.from(max(p.North-20, 0), min(p.North+20, 59)))
			l.Steps = append(l.Steps, run(d.around(q.East-p.East, -60, 60, wide), d.around(q.North-p.North, -60, 60, wide)))
			p = q
			track = append(track, p)
		case 2:
			l.Steps = append(l.Steps, d.long(p, wide))
		}
	}
	return l, track
}

// anyLog returns a valid log, which may have no true track.
func (d *dice) anyLog() api.FixLog {
	l, _ := d.sailed(d.from(0, 6), d.from(0, 4))
	if d.from(0, 2) > 0 {
		return l
	}
	other, _ := d.sailed(d.from(0, 6), d.from(0, 4))
	l.Steps = append(l.Steps, other.Steps...)
	return l
}

// asks returns sights that can be taken.
func (d *dice) asks() []api.FixNext {
	var l []api.FixNext
	for range d.from(1, 8) {
		a, b := d.line()
		l = append(l, api.FixNext{A: a, B: b, Wrong: d.from(0, []int{0, 3, 40, 1000}[d.from(0, 3)])})
	}
	return l
}

// carried returns so many clocks that agree with a longitude of a local time as far as they are right, and a span of local times with it.
func (d *dice) carried(count, right, time, longitude int) (api.Span, []api.FixCarried) {
	var l []api.FixCarried
	for i := range count {
		x := api.FixCarried{Shows: d.from(0, 100), Error: d.span(-50, 50, 10)}
		if i < right {
			x.Error = d.around(longitude-time+x.Shows, -100000, 100000, 5)
		}
		l = append(l, x)
	}
	d.mix(len(l), func(i, k int) { l[i], l[k] = l[k], l[i] })
	return d.around(time, 0, 100000, 3), l
}

// mix swaps things until they are in any order.
func (d *dice) mix(count int, swap func(i, k int)) {
	for i := range count {
		swap(i, d.from(0, i))
	}
}

// table returns one of the moon, whose times differ by at most so much, and its distances too.
func (d *dice) table(apart, far int) []api.FixMoon {
	time, distance := d.from(0, 500), d.from(0, 500)
	var l []api.FixMoon
	for range d.from(2, 12) {
		l = append(l, api.FixMoon{At: time, Distance: distance})
		time += d.from(1, apart)
		distance += d.from(1, far)
	}
	if d.from(0, 1) == 0 {
		for i := range l {
			l[i].Distance = distance - l[i].Distance
		}
	}
	return l
}

// has reports whether a number lies in a span.
func has(s api.Span, x int) bool { return s.Low <= x && x <= s.High }

// slowHolds reports whether a sight, or a FixLong, holds at a point.
func slowHolds(s api.FixStep, p api.FixPoint) bool {
	if s.Kind == api.FixSight {
		return has(s.Value, s.A*p.East+s.B*p.North)
	}
	x, y, z := has(s.Clocks[0], p.East), has(s.Clocks[1], p.East), has(s.Clocks[2], p.East)
	return x && y || y && z || z && x
}

// isSea reports whether a point is one of the sea.
func isSea(p api.FixPoint) bool {
	return 0 <= p.East && p.East < 60 && 0 <= p.North && p.North < 60
}

// slowTrue reports whether a track is true, step by step.
func slowTrue(l api.FixLog, track []api.FixPoint) bool {
	if len(track) == 0 || !has(l.East, track[0].East) || !has(l.North, track[0].North) {
		return false
	}
	for _, s := range l.Steps {
		if s.Kind != api.FixRun {
			if !slowHolds(s, track[0]) {
				return false
			}
			continue
		}
		if len(track) == 1 || !slowRuns(s, track[0], track[1]) {
			return false
		}
		track = track[1:]
	}
	return len(track) == 1
}

// slowRuns reports whether a run leads from a point of the sea to another one.
func slowRuns(s api.FixStep, from, to api.FixPoint) bool {
	return isSea(from) && isSea(to) && has(s.East, to.East-from.East) && has(s.North, to.North-from.North)
}

// places returns the points of a set, in order.
func places(set map[api.FixPoint]bool) []api.FixPoint {
	var l []api.FixPoint
	for p := range set {
		l = append(l, p)
	}
	slices.SortFunc(l, func(a, b api.FixPoint) int {
		return cmp.Or(cmp.Compare(a.East, b.East), cmp.Compare(a.North, b.North))
	})
	return l
}

// slowWas returns the points at which true tracks are at first, and behind each run: nil ones if there are no tracks.
func slowWas(l api.FixLog) [][]api.FixPoint {
	first := map[api.FixPoint]bool{}
	for x := l.East.Low; x <= l.East.High; x++ {
		for y := l.North.Low; y <= l.North.High; y++ {
			first[at(x, y)] = true
		}
	}
	sets := []map[api.FixPoint]bool{first}
	var runs []api.FixStep
	for _, s := range l.Steps {
		last := sets[len(sets)-1]
		if s.Kind == api.FixRun {
			next := map[api.FixPoint]bool{}
			for p := range last {
				for x := max(p.East+s.East.Low, 0); x <= min(p.East+s.East.High, 59); x++ {
					for y := max(p.North+s.North.Low, 0); y <= min(p.North+s.North.High, 59); y++ {
						next[at(x, y)] = true
					}
				}
			}
			sets, runs = append(sets, next), append(runs, s)
			continue
		}
		for p := range last {
			if !slowHolds(s, p) {
				delete(last, p)
			}
		}
	}
	list := make([][]api.FixPoint, len(sets))
	for k := len(sets) - 1; k >= 0; k-- {
		list[k] = places(sets[k])
		if k < len(runs) {
			list[k] = slices.DeleteFunc(list[k], func(p api.FixPoint) bool {
				return !slices.ContainsFunc(list[k+1], func(q api.FixPoint) bool { return slowRuns(runs[k], p, q) })
			})
		}
	}
	return list
}

// leaves returns how many of the points a sight leaves with a value.
func leaves(x api.FixNext, value int, points []api.FixPoint) int {
	count := 0
	for _, p := range points {
		v := x.A*p.East + x.B*p.North
		if max(v-value, value-v) <= x.Wrong {
			count++
		}
	}
	return count
}

// slowWorst returns the greatest number of the points that a sight leaves with any value.
func slowWorst(x api.FixNext, points []api.FixPoint) int {
	worst := 0
	var values []int
	for _, p := range points {
		values = append(values, x.A*p.East+x.B*p.North)
	}
	for v := slices.Min(values) - x.Wrong; v <= slices.Max(values)+x.Wrong; v++ {
		worst = max(worst, leaves(x, v, points))
	}
	return worst
}

// slowNext returns the sight with the least worst, and this.
func slowNext(asks []api.FixNext, points []api.FixPoint) (which, worst int) {
	for i, x := range asks {
		if w := slowWorst(x, points); i == 0 || w < worst {
			which, worst = i, w
		}
	}
	return which, worst
}

// agrees reports whether a longitude agrees with a clock, by all local times.
func agrees(local api.Span, x api.FixCarried, longitude int) bool {
	for t := local.Low; t <= local.High; t++ {
		if has(x.Error, longitude-t+x.Shows) {
			return true
		}
	}
	return false
}

// slowLongitudes returns all longitudes that agree with two clocks or more, as spans with gaps between them.
func slowLongitudes(local api.Span, l []api.FixCarried) []api.Span {
	low, high := 200000, -200000
	for _, x := range l {
		low, high = min(low, local.Low-x.Shows+x.Error.Low), max(high, local.High-x.Shows+x.Error.High)
	}
	var list []api.Span
	open := false
	for v := low; v <= high; v++ {
		count := 0
		for _, x := range l {
			if agrees(local, x, v) {
				count++
			}
		}
		if count < 2 {
			open = false
			continue
		}
		if !open {
			list, open = append(list, to(v, v)), true
		}
		list[len(list)-1].High = v
	}
	return list
}

// compareAt compares the distance of the moon at a time with another one, exactly.
func compareAt(l []api.FixMoon, time, distance int) int {
	for i, x := range l {
		if x.At == time {
			return cmp.Compare(x.Distance, distance)
		}
		if x.At > time {
			y := l[i-1]
			wide := x.At - y.At
			return cmp.Compare(y.Distance*(x.At-time)+x.Distance*(time-y.At), distance*wide)
		}
	}
	panic("behind the last row")
}

// slowMoon returns between what all times lie at which the distance is in a span, and whether there are any.
func slowMoon(l []api.FixMoon, seen api.Span) (s api.Span, found bool) {
	for t := l[0].At; t <= l[len(l)-1].At; t++ {
		if compareAt(l, t, seen.Low) < 0 || compareAt(l, t, seen.High) > 0 {
			continue
		}
		if !found {
			s, found = to(t, t), true
		}
		s.High = t
	}
	return s, found
}

// input has all that a call can need.
type input struct {
	log     api.FixLog
	track   []api.FixPoint
	run     int
	end     api.FixPoint
	asks    []api.FixNext
	local   api.Span
	carried []api.FixCarried
	table   []api.FixMoon
	seen    api.Span
}

// result has a field for each kind of result.
type result struct {
	truth        bool
	points       []api.FixPoint
	which, worst int
	span         api.Span
	spans        []api.Span
	e            api.Errno
}

// call is a call of the package, all of whose results are in one value (an empty list is nil).
type call struct {
	name string
	do   func(in input) result
}

// some returns nil for an empty list.
func some[T any](l []T) []T {
	if len(l) == 0 {
		return nil
	}
	return l
}

// logCalls returns the calls that have a log.
func logCalls() []call {
	return []call{
		{"Check", func(in input) (r result) {
			r.e = fix.Check(in.log)
			return r
		}},
		{"True", func(in input) (r result) {
			r.truth, r.e = fix.True(in.log, in.track)
			return r
		}},
		{"Where", func(in input) (r result) {
			r.points, r.e = fix.Where(in.log)
			r.points = some(r.points)
			return r
		}},
		{"Was", func(in input) (r result) {
			r.points, r.e = fix.Was(in.log, in.run)
			r.points = some(r.points)
			return r
		}},
		{"Track", func(in input) (r result) {
			r.points, r.e = fix.Track(in.log, in.end)
			r.points = some(r.points)
			return r
		}},
		{"Next", func(in input) (r result) {
			r.which, r.worst, r.e = fix.Next(in.log, in.asks)
			return r
		}},
	}
}

// allCalls returns the calls of all functions.
func allCalls() []call {
	return append(logCalls(),
		call{"Longitudes", func(in input) (r result) {
			r.spans, r.e = fix.Longitudes(in.local, in.carried)
			r.spans = some(r.spans)
			return r
		}},
		call{"Moon", func(in input) (r result) {
			r.span, r.e = fix.Moon(in.table, in.seen)
			return r
		}},
	)
}
