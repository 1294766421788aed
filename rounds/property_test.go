package rounds_test

import (
	"math"
	"reflect"
	"slices"
	"testing"

	"octant/api"
	"octant/rounds"
)

// roomy returns a list with room behind it, so that an append to it would show.
func roomy[T any](l []T) []T {
	big := make([]T, len(l), len(l)+4)
	copy(big, l)
	return big
}

// roomyInput returns an input with a net, whose lists have room behind them.
func roomyInput(n api.RoundsNet) input {
	in := shopInput()
	in.net = n
	in.net.Closed, in.net.Angles = roomy(n.Closed), roomy(n.Angles)
	in.angles = roomy(in.angles)
	in.proof.Triangles, in.proof.Stations = roomy(in.proof.Triangles), roomy(in.proof.Stations)
	return in
}

// behind returns what lies in, and behind, the lists of an input.
func behind(in input) []any {
	return []any{
		in.net.Closed[:cap(in.net.Closed)], in.net.Angles[:cap(in.net.Angles)], in.angles[:cap(in.angles)],
		in.proof.Triangles[:cap(in.proof.Triangles)], in.proof.Stations[:cap(in.proof.Stations)],
	}
}

// someNets returns nets of which angles close, or none do.
func someNets() []api.RoundsNet {
	return []api.RoundsNet{shopNet(), shopWrong(), shopRound(), withSpan(shopRound(), 3, to(432001, 432010)), largest(8, true), largest(1, true)}
}

// P6.5: no call changes an argument, nor what lies behind it.
func TestArgumentsAreRead(t *testing.T) {
	for _, c := range allCalls() {
		for _, n := range someNets() {
			in, want := roomyInput(n), roomyInput(n)
			c.do(in)
			if !reflect.DeepEqual(behind(in), behind(want)) {
				t.Errorf("%s changes its arguments: %v", c.name, in)
			}
		}
	}
}

// spoil changes all that lies in, and behind, lists.
func spoil[T any](wrong T, lists ...[]T) {
	for _, list := range lists {
		list = list[:cap(list)]
		for i := range list {
			list[i] = wrong
		}
	}
}

// spoilInput changes all that the lists of an input have.
func spoilInput(in input) {
	spoil(true, in.net.Closed)
	spoil(angle(-77, -77, -77, -77), in.net.Angles)
	spoil(-77, in.angles, in.proof.Triangles, in.proof.Stations)
}

// P6.5: results share no memory with arguments, nor with what another call returns, nor with each other.
func TestResultsAreNew(t *testing.T) {
	for _, c := range allCalls() {
		for _, n := range someNets() {
			in := roomyInput(n)
			r, want := c.do(in), c.do(roomyInput(n))
			spoilInput(in)
			if !reflect.DeepEqual(r, want) {
				t.Errorf("%s: its result changes with its arguments: %v, not %v", c.name, r, want)
			}
			other := roomyInput(n)
			r = c.do(other)
			spoil(-77, r.list, r.proof.Triangles)
			if !slices.Equal(r.proof.Stations, want.proof.Stations) {
				t.Errorf("%s: the lists of its result share memory: %v", c.name, r.proof)
			}
			spoil(-77, r.proof.Stations)
			spoil(to(-77, -77), r.spans)
			if !reflect.DeepEqual(behind(other), behind(roomyInput(n))) {
				t.Errorf("%s: its arguments change with its result: %v", c.name, other)
			}
			if again := c.do(roomyInput(n)); !reflect.DeepEqual(again, want) {
				t.Errorf("%s: another result after a change of the first one: %v, not %v", c.name, again, want)
			}
		}
	}
}

// anyNet returns a net of numbers that may be valid or not.
func anyNet(d *dice, number func() int, nets []api.RoundsNet) api.RoundsNet {
	n := nets[d.from(0, len(nets)-1)]
	n.Closed, n.Angles = slices.Clone(n.Closed), slices.Clone(n.Angles)
	for i := range n.Closed {
		if d.from(0, 5) == 0 {
			n.Closed[i] = !n.Closed[i]
		}
	}
	if len(n.Angles) == 0 || d.from(0, 2) == 0 {
		return n
	}
	i := d.from(0, len(n.Angles)-1)
	switch d.from(0, 4) {
	case 0:
		n.Triangles = number()
	case 1:
		n.Angles[i].Triangle = number()
	case 2:
		n.Angles[i].Station = number()
	default:
		n.Angles[i].Angle = to(number(), number())
	}
	return n
}

// P1: no call panics, and no result comes with an error.
func TestAnyArguments(t *testing.T) {
	var d dice
	numbers := []int{math.MinInt, -1296000, -10001, -1, 0, 1, 2, 3, 4, 7, 8, 9, 50, 100, 101, 10000, 107995, 200000, 219000, 220000, 228000, 648000, 648001, 1295999, 1296000, math.MaxInt}
	number := func() int { return numbers[d.from(0, len(numbers)-1)] }
	nets := slices.Concat(validNets(), someNets(), invalidNets()[:12])
	for range 6000 {
		in := shopInput()
		in.net = anyNet(&d, number, nets)
		in.repeat = api.RoundsRepeat{First: number(), Last: number(), Times: number(), Rough: to(number(), number()), Wrong: number()}
		in.faces = api.RoundsFaces{Left: number(), Right: number(), Wrong: number(), Lean: number()}
		for i := range in.angles {
			if d.from(0, 5) == 0 {
				in.angles[i] = number()
			}
		}
		in.angles = in.angles[:d.from(0, 6)]
		in.proof = api.RoundsProof{
			Triangles: []int{0, 1, number(), number()}[:d.from(0, 4)],
			Stations:  []int{number(), number()}[:d.from(0, 2)],
			Small:     d.from(0, 1) == 0,
		}
		for _, c := range allCalls() {
			if r := c.do(in); r.e != api.OK && !reflect.DeepEqual(r, result{e: r.e}) {
				t.Fatalf("%s with an error: %v", c.name, r)
			}
		}
	}
}

// P2: a call has the same result when it comes again, behind others; a nil list is as an empty one (R3).
func TestSameAgain(t *testing.T) {
	for _, c := range allCalls() {
		for _, n := range someNets() {
			first := c.do(roomyInput(n))
			for _, other := range allCalls() {
				for _, m := range someNets() {
					other.do(roomyInput(m))
				}
			}
			if again := c.do(roomyInput(n)); !reflect.DeepEqual(first, again) {
				t.Errorf("%s: %v, then %v", c.name, first, again)
			}
		}
		for _, n := range []api.RoundsNet{shopNet(), {Triangles: 1, Closed: make([]bool, 3)}, {Triangles: 1, Angles: shopNet().Angles[:3]}} {
			none, empty := shopInput(), shopInput()
			none.net, empty.net = n, n
			none.angles, none.proof = nil, api.RoundsProof{}
			empty.net.Closed, empty.net.Angles = append([]bool{}, n.Closed...), append([]api.RoundsAngle{}, n.Angles...)
			empty.angles, empty.proof = []int{}, api.RoundsProof{Triangles: []int{}, Stations: []int{}}
			if a, b := c.do(none), c.do(empty); !reflect.DeepEqual(a, b) {
				t.Errorf("%s: %v with nil lists, %v with empty ones", c.name, a, b)
			}
		}
	}
}

// inOne reports whether a number is in one of several spans.
func inOne(l []api.Span, x int) bool {
	return slices.ContainsFunc(l, func(s api.Span) bool { return has(s, x) })
}

// P6.6: the true angle is in one of the spans, whatever both readings were wrong by; no span is wider than four times Wrong, divided by Times; the spans are apart.
func TestRepetition(t *testing.T) {
	var d dice
	for range 3000 {
		angle := d.from(0, 1295999)
		if d.from(0, 9) == 0 {
			angle = direction(d.from(-20, 20))
		}
		r := api.RoundsRepeat{Times: d.from(1, api.RoundsTimes), Wrong: d.from(0, api.RoundsWrong)}
		r.Rough = to(d.from(0, angle), d.from(angle, 1295999))
		first := d.from(0, 1295999)
		ends := []int{-r.Wrong, d.from(-r.Wrong, r.Wrong), r.Wrong}
		for _, a := range ends {
			for _, b := range ends {
				r.First, r.Last = direction(first+a), direction(first+r.Times*angle+b)
				list, e := rounds.Repeat(r)
				if e != api.OK || !inOne(list, angle) {
					t.Fatalf("Repeat(%v): %v, %d, without %d", r, list, e, angle)
				}
				for i, s := range list {
					if s.Low > s.High || s.High-s.Low > 4*r.Wrong/r.Times || i > 0 && s.Low <= list[i-1].High+1 {
						t.Fatalf("Repeat(%v): %v", r, list)
					}
					for _, x := range []int{s.Low, s.High} {
						if !agrees(r, x) {
							t.Fatalf("Repeat(%v): %v, but not %d", r, list, x)
						}
					}
					if agrees(r, s.Low-1) || agrees(r, s.High+1) {
						t.Fatalf("Repeat(%v): %v, but %v is wider", r, list, s)
					}
				}
			}
		}
	}
}

// slowHull returns between what directions and leans lie that agree, by all leans.
func slowHull(f api.RoundsFaces) (directions, leans hull) {
	apart := direction(f.Right-f.Left) - 648000
	for lean := -f.Lean; lean <= f.Lean; lean++ {
		low := max(-lean-f.Wrong, apart+lean-f.Wrong)
		high := min(-lean+f.Wrong, apart+lean+f.Wrong)
		if low <= high {
			directions.add(f.Left + low)
			directions.add(f.Left + high)
			leans.add(lean)
		}
	}
	return directions, leans
}

// P6.7: the true direction and the true lean are in their spans, whatever both readings were wrong by, and each end of both is so with some lean.
func TestBothFaces(t *testing.T) {
	var d dice
	for range 300 {
		f := api.RoundsFaces{Wrong: d.from(0, api.RoundsWrong), Lean: d.from(0, api.RoundsLean)}
		at, lean := d.from(0, 1295999), d.from(-f.Lean, f.Lean)
		if d.from(0, 3) == 0 {
			at, lean = direction(d.from(-20, 20)), f.Lean
		}
		ends := []int{-f.Wrong, d.from(-f.Wrong, f.Wrong), f.Wrong}
		for _, a := range ends {
			for _, b := range ends {
				f.Left, f.Right = direction(at+lean+a), direction(at+648000-lean+b)
				p, q, e := rounds.Faces(f)
				// the direction is counted from Left on
				if e != api.OK || !has(p, f.Left-lean-a) || !has(q, lean) {
					t.Fatalf("Faces(%v): %v, %v, %d, without %d, %d", f, p, q, e, at, lean)
				}
				if directions, leans := slowHull(f); p != directions.span || q != leans.span {
					t.Fatalf("Faces(%v): %v, %v, not %v, %v", f, p, q, directions, leans)
				}
			}
		}
	}
}

// P6.8: either some angles close, and each end of a span is so in some of them, and nothing beyond it; or a proof holds: never both.
func TestEither(t *testing.T) {
	var d dice
	some, none := 0, 0
	for range 600 {
		n, _ := d.net(api.RoundsTriangles, d.from(0, 1)*100000+d.from(0, 20))
		n = d.spoiled(n, d.from(0, 2), 200000)
		l, e := rounds.Spans(n)
		p, f := rounds.Proof(n)
		if e != api.OK {
			none++
			holds, g := rounds.Holds(n, p)
			if e != api.ErrNone || f != api.OK || g != api.OK || !holds {
				t.Fatalf("%v: Spans %d; Proof %v, %d; Holds %t, %d", n, e, p, f, holds, g)
			}
			continue
		}
		some++
		if f != api.ErrNone {
			t.Fatalf("%v: Spans %v; Proof %v, %d", n, l, p, f)
		}
		checkEnds(t, n, l)
	}
	if some < 100 || none < 100 {
		t.Errorf("%d close, %d do not", some, none)
	}
}

// checkEnds checks that the ends of the spans of a net are so in some angles that close, and what is beyond them is not.
func checkEnds(t *testing.T, n api.RoundsNet, l []api.Span) {
	t.Helper()
	for i, s := range l {
		for _, x := range []int{s.Low, s.High} {
			known := withSpan(n, i, to(x, x))
			angles, e := rounds.Some(known)
			if e != api.OK || angles[i] != x || !slowCloses(n, angles) {
				t.Fatalf("%v: Spans %v; with %d at %d: Some %v, %d", n, l, x, i, angles, e)
			}
		}
		for _, x := range []int{s.Low - 1, s.High + 1} {
			if !has(n.Angles[i].Angle, x) {
				continue
			}
			known := withSpan(n, i, to(x, x))
			p, e := rounds.Proof(known)
			if e != api.OK || !slowHolds(known, setOf(p.Triangles), setOf(p.Stations), p.Small) {
				t.Fatalf("%v: Spans %v; with %d at %d: Proof %v, %d", n, l, x, i, p, e)
			}
		}
	}
}

// P6.8: no proof at all holds for a net of which angles close.
func TestNeverBoth(t *testing.T) {
	var d dice
	for range 60 {
		n, angles := d.net(5, d.from(0, 20))
		if ok, e := rounds.Closes(n, angles); !ok || e != api.OK {
			t.Fatalf("Closes(%v, %v): %t, %d", n, angles, ok, e)
		}
		for triangles := range 1 << n.Triangles {
			for stations := range 1 << len(n.Closed) {
				if stations&^closedSet(n) != 0 {
					continue
				}
				for _, small := range []bool{false, true} {
					p := api.RoundsProof{Triangles: members(triangles), Stations: members(stations), Small: small}
					if ok, e := rounds.Holds(n, p); ok || e != api.OK {
						t.Fatalf("Holds(%v, %v): %t, %d", n, p, ok, e)
					}
				}
			}
		}
	}
}

// P6.4: Holds is as the slow way says, for any proof of a net of which angles close, or none do.
func TestHoldsAll(t *testing.T) {
	var d dice
	holds := 0
	for range 60 {
		n, _ := d.net(4, d.from(0, 20))
		n = d.spoiled(n, d.from(0, 3), 60)
		for range 100 {
			triangles, stations, small := d.from(0, 1<<n.Triangles-1), d.from(0, 255)&closedSet(n), d.from(0, 1) == 0
			p := api.RoundsProof{Triangles: members(triangles), Stations: members(stations), Small: small}
			want := slowHolds(n, triangles, stations, small)
			if ok, e := rounds.Holds(n, p); ok != want || e != api.OK {
				t.Fatalf("Holds(%v, %v): %t, %d", n, p, ok, e)
			}
			if want {
				holds++
			}
		}
	}
	if holds < 300 {
		t.Errorf("only %d proofs hold", holds)
	}
}

// inside reports whether a span lies in another one.
func inside(a, b api.Span) bool { return b.Low <= a.Low && a.High <= b.High }

// P6.9: each angle is in its span, and the truth too; with a narrower span, or a station that is closed, no span is wider.
func TestNarrower(t *testing.T) {
	var d dice
	narrower, closed := 0, 0
	for range 500 {
		n, truth := d.net(api.RoundsTriangles, d.from(0, 1)*100000+d.from(0, 60))
		l, e := rounds.Spans(n)
		for i, s := range l {
			if e != api.OK || !has(s, truth[i]) || !inside(s, n.Angles[i].Angle) {
				t.Fatalf("Spans(%v): %v, %d, for %v", n, l, e, truth)
			}
		}
		i := d.from(0, len(l)-1)
		less := withSpan(n, i, to(d.from(n.Angles[i].Angle.Low, truth[i]), d.from(truth[i], n.Angles[i].Angle.High)))
		after, e := rounds.Spans(less)
		for k := range l {
			if e != api.OK || !inside(after[k], l[k]) || !has(after[k], truth[k]) {
				t.Fatalf("Spans(%v): %v, but %v, %d if %v", n, l, after, e, less.Angles[i])
			}
			if k != i && after[k] != l[k] {
				narrower++
			}
		}
		open := n
		open.Closed = make([]bool, len(n.Closed))
		before, e := rounds.Spans(open)
		for k := range l {
			if e != api.OK || !inside(l[k], before[k]) {
				t.Fatalf("Spans(%v): %v, but %v, %d if none is closed", n, l, before, e)
			}
			if before[k] != l[k] {
				closed++
			}
		}
	}
	if narrower < 100 || closed < 500 {
		t.Errorf("%d angles are narrower with a narrower one, %d with closed stations", narrower, closed)
	}
}

// P6.10: an angle that alone is measured wrong is suspect, if no angles close.
func TestOneWrong(t *testing.T) {
	var d dice
	found := 0
	for range 600 {
		n, truth := d.net(api.RoundsTriangles, d.from(0, 20))
		i := d.from(0, len(truth)-1)
		low := d.from(0, 648000)
		if d.from(0, 1) == 0 {
			low = min(max(truth[i]+d.from(-100, 100), 0), 648000)
		}
		n = withSpan(n, i, to(low, min(low+d.from(0, 20), 648000)))
		list, e := rounds.Suspects(n)
		_, f := rounds.Some(n)
		if f == api.OK && (e != api.ErrNone || list != nil) {
			t.Fatalf("Suspects(%v): %v, %d, but some close", n, list, e)
		}
		if f == api.OK {
			continue
		}
		found++
		if f != api.ErrNone || e != api.OK || !slices.Contains(list, i) || !slices.IsSorted(list) {
			t.Fatalf("Suspects(%v): %v, %d, without %d", n, list, e, i)
		}
		for k := range truth {
			angles, e := rounds.Some(withSpan(n, k, to(0, 648000)))
			if slices.Contains(list, k) != (e == api.OK) || e == api.OK && !slowCloses(withSpan(n, k, to(0, 648000)), angles) {
				t.Fatalf("Suspects(%v): %v, but %v, %d with %d", n, list, angles, e, k)
			}
		}
	}
	if found < 200 {
		t.Errorf("only %d nets with one that is wrong", found)
	}
}

// P1: each call ends soon, also with the most triangles and stations, and spans that are as wide, and as odd, as can be.
func TestLargest(t *testing.T) {
	var d dice
	for range 300 {
		n := d.wide(api.RoundsTriangles, api.RoundsStations, d.from(0, 4))
		for i := range n.Angles {
			if d.from(0, 1) == 0 {
				n.Angles[i].Angle = to(d.from(0, 1), d.from(1, 648000))
			}
		}
		in := input{net: n, angles: make([]int, 24), proof: api.RoundsProof{Triangles: []int{0, 7}}}
		some, none := 0, 0
		for _, c := range netCalls() {
			switch r := c.do(in); r.e {
			case api.OK:
				some++
			case api.ErrNone:
				none++
			}
		}
		// Check, Closes and Holds always; and either Some and Spans, or Proof and Suspects
		if some != 5 || none != 2 {
			t.Fatalf("%v: %d calls have a result, %d have none", n, some, none)
		}
	}
}
