package rounds_test

import (
	"math"
	"reflect"
	"slices"
	"testing"

	"octant/api"
	"octant/rounds"
)

// to returns a span.
func to(low, high int) api.Span { return api.Span{Low: low, High: high} }

// has reports whether a number lies in a span.
func has(s api.Span, x int) bool { return s.Low <= x && x <= s.High }

// shopRepeat and shopFaces are those of the document's examples.
func shopRepeat() api.RoundsRepeat {
	return api.RoundsRepeat{First: 100, Last: 500, Times: 4, Rough: to(80, 120), Wrong: 2}
}

func shopFaces() api.RoundsFaces {
	return api.RoundsFaces{Left: 1000, Right: 648980, Wrong: 3, Lean: 50}
}

// angle returns an angle of a net.
func angle(triangle, station, low, high int) api.RoundsAngle {
	return api.RoundsAngle{Triangle: triangle, Station: station, Angle: to(low, high)}
}

// shopNet is the net of the document's examples.
func shopNet() api.RoundsNet {
	return api.RoundsNet{Triangles: 2, Closed: make([]bool, 4), Angles: []api.RoundsAngle{
		angle(0, 0, 200000, 200010), angle(0, 1, 220000, 220000), angle(0, 2, 227990, 228005),
		angle(1, 0, 210000, 210010), angle(1, 2, 218000, 218000), angle(1, 3, 220000, 220005),
	}}
}

// shopWrong is this net with an angle that is too small.
func shopWrong() api.RoundsNet { return withSpan(shopNet(), 1, to(219000, 219000)) }

// shopRound is the further net of the document's examples.
func shopRound() api.RoundsNet {
	return api.RoundsNet{Triangles: 3, Closed: []bool{true, false, false, false}, Angles: []api.RoundsAngle{
		angle(0, 0, 432000, 432010), angle(0, 1, 107995, 108005), angle(0, 2, 107995, 108005),
		angle(1, 0, 432000, 432010), angle(1, 2, 107995, 108005), angle(1, 3, 107995, 108005),
		angle(2, 0, 432000, 432010), angle(2, 3, 107995, 108005), angle(2, 1, 107995, 108005),
	}}
}

// largest returns a net of so many triangles around the station 0, whose angles can be anything.
func largest(triangles int, closed bool) api.RoundsNet {
	n := api.RoundsNet{Triangles: triangles, Closed: make([]bool, api.RoundsStations)}
	n.Closed[0] = closed
	for t := range triangles {
		n.Angles = append(n.Angles, angle(t, 0, 0, 648000), angle(t, 1+t%7, 0, 648000), angle(t, 1+(t+1)%7, 0, 648000))
	}
	return n
}

// changed returns the net of the examples with a change.
func changed(change func(n *api.RoundsNet)) api.RoundsNet {
	n := shopNet()
	change(&n)
	return n
}

// P6.1
func TestRepeat(t *testing.T) {
	circle := to(0, 1295999)
	for _, x := range []struct {
		first, last, times int
		rough              api.Span
		wrong              int
		want               []api.Span
	}{
		{100, 500, 4, to(80, 120), 2, []api.Span{to(99, 101)}},
		{0, 0, 2, to(0, 700000), 0, []api.Span{to(0, 0), to(648000, 648000)}},
		{0, 0, 2, circle, 0, []api.Span{to(0, 0), to(648000, 648000)}},
		{0, 0, 2, to(1, 647999), 0, nil},
		{0, 0, 2, to(0, 0), 0, []api.Span{to(0, 0)}},
		{0, 0, 2, to(648000, 648000), 0, []api.Span{to(648000, 648000)}},
		// the bound is twice Wrong, and the ends are whole
		{100, 500, 4, to(80, 120), 0, []api.Span{to(100, 100)}},
		{100, 500, 4, to(80, 120), 1, []api.Span{to(100, 100)}},
		{100, 501, 4, to(80, 120), 0, nil},
		{100, 502, 4, to(80, 120), 1, []api.Span{to(100, 101)}},
		{100, 503, 4, to(80, 120), 2, []api.Span{to(100, 101)}},
		{100, 498, 4, to(80, 120), 1, []api.Span{to(99, 100)}},
		{100, 500, 4, to(80, 120), 10000, []api.Span{to(80, 120)}},
		// the rough angle narrows it
		{100, 500, 4, to(100, 120), 2, []api.Span{to(100, 101)}},
		{100, 500, 4, to(80, 99), 2, []api.Span{to(99, 99)}},
		{100, 500, 4, to(80, 98), 2, nil},
		{100, 500, 4, to(102, 120), 2, nil},
		{100, 500, 4, circle, 2, []api.Span{to(99, 101), to(324099, 324101), to(648099, 648101), to(972099, 972101)}},
		// the last reading is less than the first one: the circle went round
		{500, 100, 4, circle, 0, []api.Span{to(323900, 323900), to(647900, 647900), to(971900, 971900), to(1295900, 1295900)}},
		{1295999, 0, 1, circle, 0, []api.Span{to(1, 1)}},
		{0, 1295999, 1, circle, 0, []api.Span{to(1295999, 1295999)}},
		// around 0 a reading that is wrong can be on the other side
		{0, 1295999, 1, circle, 1, []api.Span{to(0, 1), to(1295997, 1295999)}},
		{1, 0, 1, to(0, 100), 1, []api.Span{to(0, 1)}},
		{0, 0, 1, circle, 1, []api.Span{to(0, 2), to(1295998, 1295999)}},
		{0, 0, 1, circle, 0, []api.Span{to(0, 0)}},
		{5, 5, 3, circle, 10000, []api.Span{to(0, 6666), to(425334, 438666), to(857334, 870666), to(1289334, 1295999)}},
		{0, 648000, 100, to(1295990, 1295999), 10000, nil},
		{0, 648000, 100, to(1289320, 1295999), 10000, []api.Span{to(1289320, 1289720)}},
	} {
		r := api.RoundsRepeat{First: x.first, Last: x.last, Times: x.times, Rough: x.rough, Wrong: x.wrong}
		e := api.OK
		if x.want == nil {
			e = api.ErrNone
		}
		if got, f := rounds.Repeat(r); !slices.Equal(got, x.want) || f != e {
			t.Errorf("Repeat(%v): %v, %d, not %v, %d", r, got, f, x.want, e)
		}
	}
}

// P6.1: as many spans as there can be, which are all apart.
func TestRepeatMost(t *testing.T) {
	r := api.RoundsRepeat{First: 7, Last: 7, Times: 100, Rough: to(0, 1295999), Wrong: 10000}
	list, e := rounds.Repeat(r)
	if len(list) != 101 || e != api.OK || list[0] != to(0, 200) || list[1] != to(12760, 13160) || list[100] != to(1295800, 1295999) {
		t.Errorf("Repeat(%v): %v, %d", r, list, e)
	}
}

// P6.1
func TestRepeatAll(t *testing.T) {
	var d dice
	found, several := 0, 0
	for range 300 {
		r := api.RoundsRepeat{First: d.from(0, 1295999), Times: d.from(1, 12), Wrong: d.from(0, 20)}
		if d.from(0, 1) == 0 {
			r.Times, r.Wrong = d.from(1, api.RoundsTimes), d.from(0, api.RoundsWrong)
		}
		low := d.from(0, 1295999)
		if d.from(0, 3) == 0 {
			low = d.from(0, 1) * 1295900
		}
		r.Rough = to(low, min(low+d.from(0, 40000), 1295999))
		r.Last = direction(r.First + r.Times*d.in(r.Rough) + d.from(-3*r.Wrong, 3*r.Wrong))
		want := slowRepeat(r)
		got, e := rounds.Repeat(r)
		if !slices.Equal(got, want) || (e == api.ErrNone) != (want == nil) || e != api.OK && e != api.ErrNone {
			t.Fatalf("Repeat(%v): %v, %d, not %v", r, got, e, want)
		}
		if len(want) > 0 {
			found++
		}
		if len(want) > 1 {
			several++
		}
	}
	if found < 100 || found == 300 || several < 20 {
		t.Errorf("%d agree, %d with several spans", found, several)
	}
}

// P6.1
func TestNoRepeat(t *testing.T) {
	check := func(change func(x *api.RoundsRepeat)) {
		t.Helper()
		r := shopRepeat()
		change(&r)
		if got, e := rounds.Repeat(r); got != nil || e != api.ErrRoundsRead {
			t.Errorf("Repeat(%v): %v, %d", r, got, e)
		}
	}
	check(func(x *api.RoundsRepeat) { *x = api.RoundsRepeat{} })
	for _, wrong := range []int{-1, 1296000, math.MinInt, math.MaxInt} {
		check(func(x *api.RoundsRepeat) { x.First = wrong })
		check(func(x *api.RoundsRepeat) { x.Last = wrong })
		check(func(x *api.RoundsRepeat) { x.Rough.Low = wrong })
		check(func(x *api.RoundsRepeat) { x.Rough.High = wrong })
	}
	for _, wrong := range []int{0, -1, -4, 101, math.MinInt, math.MaxInt} {
		check(func(x *api.RoundsRepeat) { x.Times = wrong })
	}
	for _, wrong := range []int{-1, 10001, math.MinInt, math.MaxInt} {
		check(func(x *api.RoundsRepeat) { x.Wrong = wrong })
	}
	for _, wrong := range []api.Span{to(120, 80), to(81, 80), to(math.MinInt, math.MaxInt), to(math.MaxInt, math.MinInt)} {
		check(func(x *api.RoundsRepeat) { x.Rough = wrong })
	}
	// the farthest that is valid
	for _, r := range []api.RoundsRepeat{
		{First: 1295999, Last: 1295999, Times: 100, Rough: to(0, 1295999), Wrong: 10000},
		{Times: 1, Rough: to(0, 0)},
	} {
		if _, e := rounds.Repeat(r); e != api.OK {
			t.Errorf("Repeat(%v): %d", r, e)
		}
	}
	if _, e := rounds.Repeat(api.RoundsRepeat{Times: 1, Rough: to(1295999, 1295999)}); e != api.ErrNone {
		t.Errorf("Repeat without any that agrees: %d", e)
	}
}

// P6.2
func TestFaces(t *testing.T) {
	for _, x := range []struct {
		left, right, wrong, lean int
		directions, leans        api.Span
	}{
		{1000, 648980, 3, 50, to(987, 993), to(7, 13)},
		// without a lean at all
		{1000, 649000, 3, 50, to(997, 1003), to(-3, 3)},
		{1000, 649000, 0, 50, to(1000, 1000), to(0, 0)},
		{1000, 649004, 3, 0, to(1001, 1003), to(0, 0)},
		{1000, 648994, 3, 0, to(997, 997), to(0, 0)},
		// the lean is bounded by what is known of it: nearer to the mean it could not be
		{1000, 648980, 3, 10, to(987, 993), to(7, 10)},
		{1000, 648980, 3, 8, to(989, 991), to(7, 8)},
		{1000, 648980, 3, 7, to(990, 990), to(7, 7)},
		{1000, 649020, 3, 8, to(1009, 1011), to(-8, -7)},
		{1000, 649020, 3, 50, to(1007, 1013), to(-13, -7)},
		// all is whole: with one second between them the mean is not
		{1000, 648981, 3, 50, to(988, 993), to(7, 12)},
		{1000, 648981, 1, 50, to(990, 991), to(9, 10)},
		{1000, 649001, 1, 50, to(1000, 1001), to(-1, 0)},
		{1000, 648999, 1, 50, to(999, 1000), to(0, 1)},
		{1000, 648999, 1, 0, to(999, 1000), to(0, 0)},
		// over 0, from Left on
		{0, 647980, 3, 50, to(-13, -7), to(7, 13)},
		{1295990, 10 + 648000, 3, 50, to(1295997, 1296003), to(-13, -7)},
		{1295999, 648001, 0, 50, to(1296000, 1296000), to(-1, -1)},
		{648990, 1000, 3, 50, to(648992, 648998), to(-8, -2)},
		{10, 1295990 - 648000, 3, 50, to(-3, 3), to(7, 13)},
		// the farthest ones
		{0, 648000 + 220000, 10000, 100000, to(110000, 110000), to(-100000, -100000)},
		{0, 648000 - 220000, 10000, 100000, to(-110000, -110000), to(100000, 100000)},
		{1295999, 647999 + 220000, 10000, 100000, to(1405999, 1405999), to(-100000, -100000)},
		{0, 648000 + 200000, 10000, 100000, to(90000, 110000), to(-100000, -90000)},
	} {
		f := api.RoundsFaces{Left: x.left, Right: x.right, Wrong: x.wrong, Lean: x.lean}
		if p, q, e := rounds.Faces(f); p != x.directions || q != x.leans || e != api.OK {
			t.Errorf("Faces(%v): %v, %v, %d, not %v, %v", f, p, q, e, x.directions, x.leans)
		}
	}
	for _, f := range []api.RoundsFaces{
		{Left: 1000, Right: 648000, Wrong: 3, Lean: 50},
		{Left: 1000, Right: 648980, Wrong: 3, Lean: 6},
		{Left: 1000, Right: 649020, Wrong: 3, Lean: 6},
		{Left: 1000, Right: 1000, Wrong: 10000, Lean: 100000},
		{Left: 0, Right: 648000 + 220001, Wrong: 10000, Lean: 100000},
		{Left: 0, Right: 648000 - 220001, Wrong: 10000, Lean: 100000},
		{Left: 0, Right: 0, Wrong: 10000, Lean: 100000},
		// the mean is not whole
		{Left: 1000, Right: 649001, Wrong: 0, Lean: 50},
		{Left: 1000, Right: 648999, Wrong: 0, Lean: 50},
	} {
		if p, q, e := rounds.Faces(f); p != (api.Span{}) || q != (api.Span{}) || e != api.ErrNone {
			t.Errorf("Faces(%v): %v, %v, %d", f, p, q, e)
		}
	}
}

// P6.2
func TestFacesAll(t *testing.T) {
	var d dice
	found := 0
	for range 3000 {
		f := api.RoundsFaces{Left: d.from(0, 1295999), Wrong: d.from(0, 5), Lean: d.from(0, 12)}
		if d.from(0, 2) == 0 {
			f.Left = direction(d.from(-20, 20))
		}
		f.Right = direction(f.Left + 648000 + d.from(-40, 40))
		directions, leans := slowFaces(f)
		p, q, e := rounds.Faces(f)
		if p != directions.span || q != leans.span || (e == api.OK) != leans.some || e != api.OK && e != api.ErrNone {
			t.Fatalf("Faces(%v): %v, %v, %d, not %v, %v", f, p, q, e, directions, leans)
		}
		if leans.some {
			found++
		}
	}
	if found < 500 || found > 2500 {
		t.Errorf("so many agree: %d", found)
	}
}

// P6.2
func TestNoFaces(t *testing.T) {
	check := func(change func(x *api.RoundsFaces)) {
		t.Helper()
		f := shopFaces()
		change(&f)
		if p, q, e := rounds.Faces(f); p != (api.Span{}) || q != (api.Span{}) || e != api.ErrRoundsRead {
			t.Errorf("Faces(%v): %v, %v, %d", f, p, q, e)
		}
	}
	for _, wrong := range []int{-1, 1296000, math.MinInt, math.MaxInt} {
		check(func(x *api.RoundsFaces) { x.Left = wrong })
		check(func(x *api.RoundsFaces) { x.Right = wrong })
	}
	for _, wrong := range []int{-1, 10001, math.MinInt, math.MaxInt} {
		check(func(x *api.RoundsFaces) { x.Wrong = wrong })
	}
	for _, wrong := range []int{-1, 100001, math.MinInt, math.MaxInt} {
		check(func(x *api.RoundsFaces) { x.Lean = wrong })
	}
	// the least is valid, but the faces are not half a circle apart
	if _, _, e := rounds.Faces(api.RoundsFaces{}); e != api.ErrNone {
		t.Errorf("Faces of nothing: %d", e)
	}
}

func validNets() []api.RoundsNet {
	mixed := shopRound()
	mixed.Angles = slices.Clone(mixed.Angles)
	slices.Reverse(mixed.Angles)
	mixed.Angles[0], mixed.Angles[4] = mixed.Angles[4], mixed.Angles[0]
	return []api.RoundsNet{
		shopNet(), shopWrong(), shopRound(), mixed, largest(8, false), largest(8, true), largest(1, false), largest(1, true),
		{Triangles: 1, Closed: make([]bool, 3), Angles: []api.RoundsAngle{angle(0, 2, 0, 0), angle(0, 0, 648000, 648000), angle(0, 1, 0, 648000)}},
		changed(func(n *api.RoundsNet) { n.Closed = []bool{false, false, false, false, true} }),
		changed(func(n *api.RoundsNet) { n.Closed = []bool{true, true, true, true, true, true, true, true} }),
	}
}

func invalidNets() []api.RoundsNet {
	list := []api.RoundsNet{
		{}, {Triangles: 1}, {Triangles: 1, Closed: make([]bool, 3)},
		{Triangles: 0, Closed: make([]bool, 3)},
		changed(func(n *api.RoundsNet) { n.Closed = nil }),
		changed(func(n *api.RoundsNet) { n.Closed = make([]bool, 3) }),
		changed(func(n *api.RoundsNet) { n.Closed = make([]bool, 9) }),
		changed(func(n *api.RoundsNet) { n.Angles = nil }),
		changed(func(n *api.RoundsNet) { n.Angles = n.Angles[:5] }),
		changed(func(n *api.RoundsNet) { n.Angles = n.Angles[:3] }),
		changed(func(n *api.RoundsNet) { n.Angles = append(n.Angles, angle(1, 1, 0, 9)) }),
		// four of one triangle, and two of the other one
		changed(func(n *api.RoundsNet) { n.Angles[3] = angle(0, 3, 0, 9) }),
		changed(func(n *api.RoundsNet) { n.Angles[0] = angle(1, 1, 0, 9) }),
		// two of a triangle at one station
		changed(func(n *api.RoundsNet) { n.Angles[0].Station = 1 }),
		changed(func(n *api.RoundsNet) { n.Angles[0].Station = 2 }),
		changed(func(n *api.RoundsNet) { n.Angles[5].Station = 2 }),
		changed(func(n *api.RoundsNet) { n.Angles[1] = n.Angles[0] }),
		// two stations cannot have three angles of a triangle
		{Triangles: 1, Closed: make([]bool, 2), Angles: []api.RoundsAngle{angle(0, 0, 0, 9), angle(0, 1, 0, 9), angle(0, 0, 0, 9)}},
	}
	nine := largest(8, false)
	nine.Triangles = 9
	nine.Angles = append(nine.Angles, angle(8, 0, 0, 9), angle(8, 1, 0, 9), angle(8, 2, 0, 9))
	list = append(list, nine)
	for _, x := range []int{0, -1, 1, 3, 9, math.MinInt, math.MaxInt, math.MaxInt/3 + 3} {
		list = append(list, changed(func(n *api.RoundsNet) { n.Triangles = x }))
	}
	for k := range 6 {
		for _, x := range []int{-1, 2, 8, math.MinInt, math.MaxInt} {
			list = append(list, changed(func(n *api.RoundsNet) { n.Angles[k].Triangle = x }))
		}
		for _, x := range []int{-1, 4, 8, math.MinInt, math.MaxInt} {
			list = append(list, changed(func(n *api.RoundsNet) { n.Angles[k].Station = x }))
		}
		for _, x := range []api.Span{to(-1, 0), to(0, 648001), to(648001, 648001), to(-1, -1), to(1, 0), to(math.MinInt, math.MaxInt), to(math.MaxInt, math.MinInt)} {
			list = append(list, changed(func(n *api.RoundsNet) { n.Angles[k].Angle = x }))
		}
	}
	return list
}

// P6.3
func TestCheck(t *testing.T) {
	for _, n := range validNets() {
		if e := rounds.Check(n); e != api.OK {
			t.Errorf("Check(%v): %d", n, e)
		}
	}
	for _, n := range invalidNets() {
		if e := rounds.Check(n); e != api.ErrRounds {
			t.Errorf("Check(%v): %d", n, e)
		}
	}
}

// shopInput returns an input with which each call but Proof and Suspects has a result.
func shopInput() input {
	return input{
		repeat: shopRepeat(), faces: shopFaces(), net: shopNet(),
		angles: []int{200000, 220000, 228000, 210000, 218000, 220000},
		proof:  api.RoundsProof{Triangles: []int{0}, Small: true},
	}
}

// P6.3: the error of the net comes first, and no result comes with it.
func TestNetFirst(t *testing.T) {
	wrong := input{proof: api.RoundsProof{Triangles: []int{-1}}}
	for _, c := range netCalls() {
		for _, n := range invalidNets() {
			for _, in := range []input{shopInput(), wrong} {
				in.net = n
				if r := c.do(in); !reflect.DeepEqual(r, result{e: api.ErrRounds}) {
					t.Errorf("%s with %v: %v", c.name, n, r)
				}
			}
		}
		wrong.net = shopWrong()
		if r := c.do(wrong); c.own != api.OK && !reflect.DeepEqual(r, result{e: c.own}) {
			t.Errorf("%s with what is wrong: %v", c.name, r)
		}
	}
}

// P6.3
func TestCloses(t *testing.T) {
	n := shopNet()
	good := shopInput().angles
	round := []int{432000, 108000, 108000, 432000, 107995, 108005, 432000, 108003, 107997}
	for _, x := range []struct {
		n      api.RoundsNet
		angles []int
		want   bool
	}{
		{n, good, true},
		{n, []int{200010, 220000, 227990, 210000, 218000, 220000}, true},
		{n, []int{200005, 220000, 227995, 210000, 218000, 220000}, true},
		{shopWrong(), good, false},
		// not 648000 together
		{n, []int{200000, 220000, 227999, 210000, 218000, 220000}, false},
		{n, []int{200000, 220000, 228000, 210001, 218000, 220000}, false},
		{n, []int{200001, 220000, 228000, 210000, 218000, 220000}, false},
		{n, []int{200001, 220000, 228000, 209999, 218000, 220000}, false},
		// not in a span
		{n, []int{200011, 220000, 227989, 210000, 218000, 220000}, false},
		{n, []int{199999, 220000, 228001, 210000, 218000, 220000}, false},
		{n, []int{200000, 219999, 228001, 210000, 218000, 220000}, false},
		// numbers that are so great that their sum would come round
		{n, []int{math.MaxInt, math.MaxInt, 648002, 210000, 218000, 220000}, false},
		{n, []int{math.MinInt, math.MinInt, 648000, 210000, 218000, 220000}, false},
		{n, []int{0, 0, 0, 0, 0, 0}, false},
		{shopRound(), round, true},
		// all triangles are right, but not the station 0
		{shopRound(), []int{432001, 108000, 107999, 432000, 107995, 108005, 432000, 108003, 107997}, false},
		{shopRound(), []int{432010, 107995, 107995, 432010, 107995, 107995, 432010, 107995, 107995}, false},
		// the station 0 is right, but not all triangles
		{shopRound(), []int{432000, 108001, 108000, 432000, 107995, 108005, 432000, 108003, 107997}, false},
		{shopRound(), []int{432000, 108001, 108000, 432000, 107995, 108004, 432000, 108003, 107997}, false},
	} {
		if ok, e := rounds.Closes(x.n, x.angles); ok != x.want || e != api.OK {
			t.Errorf("Closes(%v, %v): %t, %d", x.n, x.angles, ok, e)
		}
	}
	open := shopRound()
	open.Closed = make([]bool, 4)
	if ok, e := rounds.Closes(open, []int{432010, 107995, 107995, 432010, 107995, 107995, 432010, 107995, 107995}); !ok || e != api.OK {
		t.Errorf("Closes(%v): %t, %d", open, ok, e)
	}
	for _, angles := range [][]int{nil, {}, good[:5], good[:1], append(slices.Clone(good), 0), round} {
		if ok, e := rounds.Closes(n, angles); ok || e != api.ErrRoundsTruth {
			t.Errorf("Closes(%v): %t, %d", angles, ok, e)
		}
	}
}

// P6.3: a closed station without angles never comes round.
func TestNoAngles(t *testing.T) {
	n := changed(func(n *api.RoundsNet) { n.Closed = []bool{false, false, false, false, true} })
	if ok, e := rounds.Closes(n, shopInput().angles); ok || e != api.OK {
		t.Errorf("Closes: %t, %d", ok, e)
	}
	if l, e := rounds.Some(n); l != nil || e != api.ErrNone {
		t.Errorf("Some: %v, %d", l, e)
	}
	if l, e := rounds.Spans(n); l != nil || e != api.ErrNone {
		t.Errorf("Spans: %v, %d", l, e)
	}
	if l, e := rounds.Suspects(n); len(l) != 0 || e != api.OK {
		t.Errorf("Suspects: %v, %d", l, e)
	}
	p, e := rounds.Proof(n)
	if ok, f := rounds.Holds(n, p); !ok || e != api.OK || f != api.OK {
		t.Errorf("Proof: %v, %d; Holds: %t, %d", p, e, ok, f)
	}
	if ok, e := rounds.Holds(n, api.RoundsProof{Stations: []int{4}}); !ok || e != api.OK {
		t.Errorf("Holds: %t, %d", ok, e)
	}
	if ok, e := rounds.Holds(n, api.RoundsProof{Stations: []int{4}, Small: true}); ok || e != api.OK {
		t.Errorf("Holds, small: %t, %d", ok, e)
	}
}

// checkNet checks what is said of a net against between what each angle lies (nil if none close).
func checkNet(t *testing.T, n api.RoundsNet, want []api.Span) {
	t.Helper()
	none := api.OK
	if want == nil {
		none = api.ErrNone
	}
	if l, e := rounds.Spans(n); !slices.Equal(l, want) || e != none {
		t.Fatalf("Spans(%v): %v, %d, not %v", n, l, e, want)
	}
	if l, e := rounds.Some(n); e != none || want != nil && (len(l) != len(want) || !slowCloses(n, l)) || want == nil && l != nil {
		t.Fatalf("Some(%v): %v, %d, not %d", n, l, e, none)
	}
	p, e := rounds.Proof(n)
	if want != nil {
		if e != api.ErrNone || p.Triangles != nil || p.Stations != nil || p.Small {
			t.Fatalf("Proof(%v): %v, %d", n, p, e)
		}
		return
	}
	if ok, f := rounds.Holds(n, p); e != api.OK || !ok || f != api.OK || !slowHolds(n, setOf(p.Triangles), setOf(p.Stations), p.Small) {
		t.Fatalf("Proof(%v): %v, %d; Holds: %t, %d", n, p, e, ok, f)
	}
}

// setOf returns the set of the elements of a list.
func setOf(l []int) int {
	set := 0
	for _, x := range l {
		set |= 1 << x
	}
	return set
}

// P6.3, P6.4
func TestNets(t *testing.T) {
	checkNet(t, shopNet(), []api.Span{to(200000, 200010), to(220000, 220000), to(227990, 228000), to(210000, 210000), to(218000, 218000), to(220000, 220000)})
	checkNet(t, shopWrong(), nil)
	one, other := to(432000, 432000), to(107995, 108005)
	checkNet(t, shopRound(), []api.Span{one, other, other, one, other, other, one, other, other})
	open := shopRound()
	open.Closed = make([]bool, 4)
	one = to(432000, 432010)
	checkNet(t, open, []api.Span{one, other, other, one, other, other, one, other, other})
	// the triangles allow more than goes round, or less
	checkNet(t, withSpan(shopRound(), 3, to(432001, 432010)), nil)
	checkNet(t, withSpan(shopRound(), 3, to(431000, 431979)), nil)
	checkNet(t, withSpan(shopRound(), 3, to(431990, 431990)), []api.Span{
		to(432000, 432010), other, other, to(431990, 431990), to(108005, 108005), to(108005, 108005), to(432000, 432010), other, other,
	})
	all := to(0, 648000)
	checkNet(t, largest(1, false), []api.Span{all, all, all})
	checkNet(t, largest(1, true), nil)
	checkNet(t, largest(2, true), []api.Span{to(648000, 648000), to(0, 0), to(0, 0), to(648000, 648000), to(0, 0), to(0, 0)})
	checkNet(t, largest(3, true), slices.Repeat([]api.Span{all}, 9))
	checkNet(t, largest(8, false), slices.Repeat([]api.Span{all}, 24))
	checkNet(t, largest(8, true), slices.Repeat([]api.Span{all}, 24))
	checkNet(t, changed(func(n *api.RoundsNet) { n.Closed = []bool{true, true, true, true} }), nil)
}

// P6.4
func TestHolds(t *testing.T) {
	tight := withSpan(shopNet(), 2, to(227990, 227999))
	for _, x := range []struct {
		n                   api.RoundsNet
		triangles, stations []int
		small, want         bool
	}{
		{shopWrong(), []int{0}, nil, true, true},
		{shopWrong(), []int{0}, nil, false, false},
		{shopWrong(), []int{1}, nil, true, false},
		{shopWrong(), []int{1}, nil, false, false},
		{shopWrong(), []int{0, 1}, nil, true, true},
		{shopWrong(), nil, nil, true, false},
		{shopWrong(), nil, nil, false, false},
		{shopNet(), []int{0}, nil, true, false},
		{shopNet(), []int{1}, nil, false, false},
		// exactly so much can still be
		{withSpan(tight, 0, to(199990, 200001)), []int{0}, nil, true, false},
		{withSpan(tight, 0, to(199990, 200000)), []int{0}, nil, true, true},
		{withSpan(shopNet(), 4, to(218000, 218001)), []int{1}, nil, false, false},
		{withSpan(shopNet(), 4, to(218001, 218001)), []int{1}, nil, false, true},
		{withSpan(shopNet(), 4, to(218001, 218001)), []int{1}, nil, true, false},
		// at a station alone: its angles are inside
		{withSpan(shopRound(), 0, to(432001, 432010)), nil, []int{0}, true, true},
		{withSpan(shopRound(), 0, to(432001, 432010)), nil, []int{0}, false, false},
		{withSpan(shopRound(), 0, to(432000, 432010)), nil, []int{0}, true, false},
		{withSpan(shopRound(), 0, to(0, 431979)), nil, []int{0}, false, true},
		{withSpan(shopRound(), 0, to(0, 431980)), nil, []int{0}, false, false},
		{withSpan(shopRound(), 0, to(0, 431979)), nil, []int{0}, true, false},
		// the three triangles and the station: what is outside lies at the other stations
		{withSpan(shopRound(), 1, to(107000, 107974)), []int{0, 1, 2}, []int{0}, true, true},
		{withSpan(shopRound(), 1, to(107000, 107975)), []int{0, 1, 2}, []int{0}, true, false},
		{withSpan(shopRound(), 1, to(108025, 109000)), []int{0, 1, 2}, []int{0}, false, false},
		{withSpan(shopRound(), 1, to(108026, 109000)), []int{0, 1, 2}, []int{0}, false, true},
		// one triangle and the station: two angles are outside, two inside
		{shopRound(), []int{1}, []int{0}, true, false},
		{withSpan(shopRound(), 4, to(100000, 107994)), []int{1}, []int{0}, true, true},
		{withSpan(shopRound(), 4, to(100000, 107995)), []int{1}, []int{0}, true, false},
	} {
		p := api.RoundsProof{Triangles: x.triangles, Stations: x.stations, Small: x.small}
		if ok, e := rounds.Holds(x.n, p); ok != x.want || e != api.OK {
			t.Errorf("Holds(%v, %v): %t, %d, not %t", x.n, p, ok, e, x.want)
		}
	}
}

// P6.4: what is no proof for a net.
func TestNoProof(t *testing.T) {
	check := func(n api.RoundsNet, triangles, stations []int, want api.Errno) {
		t.Helper()
		for _, small := range []bool{false, true} {
			p := api.RoundsProof{Triangles: triangles, Stations: stations, Small: small}
			if ok, e := rounds.Holds(n, p); e != want || e != api.OK && ok {
				t.Errorf("Holds(%v, %v): %t, %d", n, p, ok, e)
			}
		}
	}
	n := shopRound()
	n.Closed = []bool{true, false, true, true}
	for _, l := range [][]int{{-1}, {3}, {8}, {0, 0}, {1, 0}, {0, 2, 1}, {0, 1, 2, 2}, {0, 1, 2, 3}, {math.MinInt}, {math.MaxInt}, {0, math.MaxInt, 1}} {
		check(n, l, nil, api.ErrRoundsTruth)
		check(n, l, []int{0}, api.ErrRoundsTruth)
	}
	for _, l := range [][]int{{-1}, {4}, {8}, {1}, {0, 1}, {1, 2}, {0, 0}, {2, 0}, {0, 2, 3, 3}, {0, 3, 2}, {math.MinInt}, {math.MaxInt}} {
		check(n, nil, l, api.ErrRoundsTruth)
		check(n, []int{0, 1, 2}, l, api.ErrRoundsTruth)
	}
	for _, l := range [][]int{nil, {}, {0}, {2}, {0, 2}, {0, 3}, {0, 2, 3}} {
		check(n, nil, l, api.OK)
		check(n, []int{0, 2}, l, api.OK)
		check(n, []int{0, 1, 2}, l, api.OK)
	}
	check(shopNet(), nil, []int{0}, api.ErrRoundsTruth)
}

// P6.4
func TestSuspects(t *testing.T) {
	twice := withSpan(shopWrong(), 4, to(217000, 217000))
	for _, x := range []struct {
		n    api.RoundsNet
		want []int
		e    api.Errno
	}{
		{shopWrong(), []int{0, 1, 2}, api.OK},
		{withSpan(shopNet(), 4, to(217000, 217000)), []int{3, 4, 5}, api.OK},
		{withSpan(shopNet(), 4, to(218001, 218001)), []int{3, 4, 5}, api.OK},
		// both triangles are wrong: none alone
		{twice, nil, api.OK},
		{shopNet(), nil, api.ErrNone},
		{shopRound(), nil, api.ErrNone},
		// more than goes round: each angle at the station may be, and no other one helps
		{withSpan(shopRound(), 3, to(432001, 432010)), []int{0, 3, 6}, api.OK},
		// too little in a triangle: if its angle at the station were more, those of the others would be less than they are
		{withSpan(shopRound(), 1, to(107000, 107974)), []int{1, 2}, api.OK},
		// one triangle does not go round, whatever its angles are
		{largest(1, true), nil, api.OK},
	} {
		if l, e := rounds.Suspects(x.n); !slices.Equal(l, x.want) || e != x.e {
			t.Errorf("Suspects(%v): %v, %d, not %v, %d", x.n, l, e, x.want, x.e)
		}
	}
}

// P6.3, P6.4: by all angles.
func TestNetsAll(t *testing.T) {
	var d dice
	found, none, fixed := 0, 0, 0
	for range 400 {
		n, _ := d.net(5, 2)
		n = d.spoiled(n, d.from(0, 2), 4)
		var want []api.Span
		for _, h := range slowSpans(n) {
			if h.some {
				want = append(want, h.span)
			}
		}
		checkNet(t, n, want)
		if want == nil {
			none++
			continue
		}
		found++
		for i, s := range want {
			if s != n.Angles[i].Angle {
				fixed++
			}
		}
	}
	if found < 100 || none < 100 || fixed < 200 {
		t.Errorf("%d close, %d do not; %d angles are narrower", found, none, fixed)
	}
}

// P6.3, P6.4: by all proofs, with spans of any width.
func TestProofsAll(t *testing.T) {
	var d dice
	found, none := 0, 0
	for range 150 {
		n, _ := d.net(api.RoundsTriangles, d.from(0, 1)*200000+d.from(0, 20))
		n = d.spoiled(n, d.from(0, 3), 300000)
		can := slowCanClose(n)
		l, e := rounds.Spans(n)
		if !can {
			none++
			checkNet(t, n, nil)
			continue
		}
		found++
		if e != api.OK {
			t.Fatalf("Spans(%v): %v, %d", n, l, e)
		}
		checkNet(t, n, l)
		i := d.from(0, len(l)-1)
		for _, x := range []struct {
			at  int
			can bool
		}{{l[i].Low, true}, {l[i].High, true}, {l[i].Low - 1, false}, {l[i].High + 1, false}} {
			if has(n.Angles[i].Angle, x.at) && slowCanClose(withSpan(n, i, to(x.at, x.at))) != x.can {
				t.Fatalf("Spans(%v): %v, but %d at %d", n, l, x.at, i)
			}
		}
	}
	if found < 30 || none < 30 {
		t.Errorf("%d close, %d do not", found, none)
	}
}

// P6.4: by all proofs, with each angle that can be anything.
func TestSuspectsAll(t *testing.T) {
	var d dice
	var count [3]int
	for range 120 {
		n, _ := d.net(5, d.from(0, 10))
		n = d.spoiled(n, d.from(1, 2), 1000)
		if slowCanClose(n) {
			continue
		}
		want := slowSuspects(n)
		if l, e := rounds.Suspects(n); !slices.Equal(l, want) || e != api.OK {
			t.Fatalf("Suspects(%v): %v, %d, not %v", n, l, e, want)
		}
		switch {
		case len(want) == 0:
			count[0]++
		case len(want) < len(n.Angles):
			count[1]++
		default:
			count[2]++
		}
	}
	if count[0] < 5 || count[1] < 30 {
		t.Errorf("so many without, with some, with only suspects: %v", count)
	}
}
