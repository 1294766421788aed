package level_test

import (
	"math"
	"reflect"
	"slices"
	"testing"

	"octant/api"
	"octant/level"
)

// to returns a span.
func to(low, high int) api.Span { return api.Span{Low: low, High: high} }

// shopVial and shopReadings are those of the document's examples.
func shopVial() api.LevelVial {
	return api.LevelVial{Marks: 40, Length: to(16, 20), Value: to(50, 52), Zero: to(38, 42), Wrong: 1}
}

func shopReadings() []api.LevelReading {
	return []api.LevelReading{{Left: 14, Right: 32}, {Left: 9, Right: 27, Turned: true}, {Left: 5, Right: 23, Turned: true}}
}

// otherVial is the other vial of the document's stock.
func otherVial() api.LevelVial {
	return api.LevelVial{Marks: 60, Length: to(20, 24), Value: to(20, 20), Zero: to(58, 62), Wrong: 1}
}

// changed returns the vial of the examples with a change.
func changed(change func(v *api.LevelVial)) api.LevelVial {
	v := shopVial()
	change(&v)
	return v
}

func validVials() []api.LevelVial {
	return []api.LevelVial{
		shopVial(),
		otherVial(),
		{Marks: 10, Length: to(1, 1), Value: to(1, 1)},
		{Marks: 10, Length: to(10, 10), Value: to(500, 500), Zero: to(20, 20), Wrong: 8},
		{Marks: 200, Length: to(1, 200), Value: to(1, 500), Zero: to(0, 400), Wrong: 8},
		{Marks: 200, Length: to(200, 200), Value: to(500, 500), Zero: to(400, 400)},
	}
}

func invalidVials() []api.LevelVial {
	list := []api.LevelVial{{}}
	for _, marks := range []int{9, 201, 0, -40, math.MinInt, math.MaxInt} {
		list = append(list, changed(func(v *api.LevelVial) { v.Marks = marks }))
	}
	for _, s := range []api.Span{to(0, 20), to(-1, 20), to(20, 16), to(16, 41), to(41, 41), {}, to(math.MinInt, math.MaxInt)} {
		list = append(list, changed(func(v *api.LevelVial) { v.Length = s }))
	}
	for _, s := range []api.Span{to(0, 52), to(-1, 1), to(52, 50), to(50, 501), to(501, 501), {}, to(math.MinInt, math.MaxInt)} {
		list = append(list, changed(func(v *api.LevelVial) { v.Value = s }))
	}
	for _, s := range []api.Span{to(-1, 42), to(42, 38), to(38, 81), to(81, 81), to(math.MinInt, 1), to(0, math.MaxInt)} {
		list = append(list, changed(func(v *api.LevelVial) { v.Zero = s }))
	}
	for _, wrong := range []int{-1, 9, math.MinInt, math.MaxInt} {
		list = append(list, changed(func(v *api.LevelVial) { v.Wrong = wrong }))
	}
	return list
}

// P3.1
func TestCheck(t *testing.T) {
	for _, v := range validVials() {
		if e := level.Check(v); e != api.OK {
			t.Errorf("Check(%v): %d", v, e)
		}
	}
	for _, v := range invalidVials() {
		if e := level.Check(v); e != api.ErrLevelVial {
			t.Errorf("Check(%v): %d", v, e)
		}
	}
}

// notReadings returns readings none of which is one of shopVial.
func notReadings() []api.LevelReading {
	return []api.LevelReading{
		{}, {Left: -1, Right: 17}, {Left: 23, Right: 41}, {Left: 20, Right: 20}, {Left: 30, Right: 12}, {Left: 20, Right: 2},
		{Left: 10, Right: 24}, {Left: 10, Right: 32}, {Left: 10, Right: 24, Turned: true}, {Left: 0, Right: 40},
		{Left: math.MinInt, Right: math.MaxInt}, {Left: math.MaxInt, Right: math.MinInt}, {Left: 10, Right: math.MaxInt}, {Left: math.MinInt, Right: 10},
		{Left: math.MinInt, Right: math.MinInt + 18}, {Left: math.MaxInt - 18, Right: math.MaxInt},
	}
}

// P3.1: the error of the vial comes first, then the one of the readings, and no result comes with them.
func TestVialFirst(t *testing.T) {
	right := api.LevelTruth{Value: 50, Zero: 40, Tilt: 250}
	for _, c := range readingCalls() {
		for _, v := range invalidVials() {
			for _, l := range [][]api.LevelReading{nil, shopReadings()[:1], shopReadings(), notReadings()} {
				for _, truth := range []api.LevelTruth{{}, right} {
					if r := c.do(input{vial: v, readings: l, truth: truth}); !reflect.DeepEqual(r, result{e: api.ErrLevelVial}) {
						t.Errorf("%s with %v: %v", c.name, v, r)
					}
				}
			}
		}
		wrong := [][]api.LevelReading{nil, {}, slices.Repeat(shopReadings()[:1], 9)}
		for _, x := range notReadings() {
			wrong = append(wrong, []api.LevelReading{x}, append(shopReadings()[:1], x), append(shopReadings(), x))
		}
		for _, l := range wrong {
			for _, truth := range []api.LevelTruth{{}, right} {
				if r := c.do(input{vial: shopVial(), readings: l, truth: truth}); !reflect.DeepEqual(r, result{e: api.ErrLevelReading}) {
					t.Errorf("%s with %v: %v", c.name, l, r)
				}
			}
		}
	}
}

// P3.1: the farthest readings that are such, and eight of them.
func TestReadings(t *testing.T) {
	for _, x := range []struct {
		v api.LevelVial
		l []api.LevelReading
	}{
		{shopVial(), []api.LevelReading{{Left: 0, Right: 15}}},
		{shopVial(), []api.LevelReading{{Left: 0, Right: 21}}},
		{shopVial(), []api.LevelReading{{Left: 25, Right: 40, Turned: true}}},
		{shopVial(), []api.LevelReading{{Left: 19, Right: 40, Turned: true}}},
		{shopVial(), slices.Repeat(shopReadings()[:1], 8)},
		{validVials()[2], []api.LevelReading{{Left: 9, Right: 10}}},
		{validVials()[3], []api.LevelReading{{Left: 8, Right: 10}}},
		{validVials()[3], []api.LevelReading{{Left: 0, Right: 10}}},
		{validVials()[4], []api.LevelReading{{Left: 0, Right: 200}, {Left: 0, Right: 200, Turned: true}}},
		{validVials()[5], []api.LevelReading{{Left: 0, Right: 200, Turned: true}}},
	} {
		if _, _, e := level.Tilt(x.v, x.l); e != api.OK {
			t.Errorf("Tilt(%v, %v): %d", x.v, x.l, e)
		}
	}
	// the length may be wrong, too, but a bubble has one
	long := api.LevelVial{Marks: 10, Length: to(1, 1), Value: to(1, 1), Wrong: 8}
	for right := range 12 {
		_, _, e := level.Tilt(long, []api.LevelReading{{Left: 1, Right: right}})
		if (e == api.OK) != within(right, 2, 10) || e != api.OK && e != api.ErrLevelReading {
			t.Errorf("a bubble from 1 to %d: %d", right, e)
		}
	}
}

func within(x, low, high int) bool { return low <= x && x <= high }

// P3.2
func TestCan(t *testing.T) {
	direct, turned := shopReadings()[:1], shopReadings()[1:2]
	for _, x := range []struct {
		l    []api.LevelReading
		t    api.LevelTruth
		want bool
		e    api.Errno
	}{
		{shopReadings()[:2], api.LevelTruth{Value: 50, Zero: 40, Tilt: 250}, true, api.OK},
		{shopReadings()[:2], api.LevelTruth{Value: 50, Zero: 40, Tilt: 251}, false, api.OK},
		{shopReadings(), api.LevelTruth{Value: 50, Zero: 40, Tilt: 250}, false, api.OK},
		// from 46 less 40 less 1 to 46 less 40 and 1
		{direct, api.LevelTruth{Value: 50, Zero: 40, Tilt: 250}, true, api.OK},
		{direct, api.LevelTruth{Value: 50, Zero: 40, Tilt: 249}, false, api.OK},
		{direct, api.LevelTruth{Value: 50, Zero: 40, Tilt: 350}, true, api.OK},
		{direct, api.LevelTruth{Value: 50, Zero: 40, Tilt: 351}, false, api.OK},
		{direct, api.LevelTruth{Value: 52, Zero: 38, Tilt: 52 * 9}, true, api.OK},
		{direct, api.LevelTruth{Value: 52, Zero: 38, Tilt: 52*9 + 1}, false, api.OK},
		{direct, api.LevelTruth{Value: 52, Zero: 42, Tilt: 52 * 3}, true, api.OK},
		{direct, api.LevelTruth{Value: 52, Zero: 42, Tilt: 52*3 - 1}, false, api.OK},
		// from 40 less 36 less 1 to 40 less 36 and 1
		{turned, api.LevelTruth{Value: 50, Zero: 40, Tilt: 150}, true, api.OK},
		{turned, api.LevelTruth{Value: 50, Zero: 40, Tilt: 149}, false, api.OK},
		{turned, api.LevelTruth{Value: 50, Zero: 40, Tilt: 250}, true, api.OK},
		{turned, api.LevelTruth{Value: 50, Zero: 40, Tilt: 251}, false, api.OK},
		// two readings that differ by too much, with no tilt between them
		{shopReadings()[1:], api.LevelTruth{Value: 50, Zero: 40, Tilt: 300}, false, api.OK},
		{direct, api.LevelTruth{Value: 50, Zero: 40, Tilt: math.MaxInt}, false, api.OK},
		{direct, api.LevelTruth{Value: 50, Zero: 40, Tilt: math.MinInt}, false, api.OK},
		{direct, api.LevelTruth{Value: 49, Zero: 40, Tilt: 250}, false, api.ErrLevelTruth},
		{direct, api.LevelTruth{Value: 53, Zero: 40, Tilt: 250}, false, api.ErrLevelTruth},
		{direct, api.LevelTruth{Value: 50, Zero: 37, Tilt: 250}, false, api.ErrLevelTruth},
		{direct, api.LevelTruth{Value: 50, Zero: 43, Tilt: 250}, false, api.ErrLevelTruth},
		{direct, api.LevelTruth{}, false, api.ErrLevelTruth},
		{direct, api.LevelTruth{Value: math.MaxInt, Zero: math.MinInt}, false, api.ErrLevelTruth},
		{direct, api.LevelTruth{Value: math.MinInt, Zero: math.MaxInt}, false, api.ErrLevelTruth},
	} {
		if yes, e := level.Can(shopVial(), x.l, x.t); yes != x.want || e != x.e {
			t.Errorf("Can(%v, %v): %v, %d", x.l, x.t, yes, e)
		}
	}
}

// P3.3
func TestTilt(t *testing.T) {
	all := shopReadings()
	widest := validVials()[4]
	for _, x := range []struct {
		v          api.LevelVial
		l          []api.LevelReading
		tilt, zero api.Span
		e          api.Errno
	}{
		{shopVial(), all[:1], to(150, 468), to(38, 42), api.OK},
		{shopVial(), all[1:2], to(50, 7*52), to(38, 42), api.OK},
		{shopVial(), all[:2], to(200, 312), to(40, 42), api.OK},
		{shopVial(), []api.LevelReading{all[1], all[0]}, to(200, 312), to(40, 42), api.OK},
		{shopVial(), []api.LevelReading{all[0], all[2]}, to(9*50, 9*52), to(38, 38), api.OK},
		{shopVial(), all, to(0, 0), to(0, 0), api.ErrLevelFalse},
		{shopVial(), all[1:], to(0, 0), to(0, 0), api.ErrLevelFalse},
		// below 0 it is the greater value that makes the least tilt
		{shopVial(), []api.LevelReading{{Left: 9, Right: 27}}, to(-7*52, -50), to(38, 42), api.OK},
		{shopVial(), []api.LevelReading{{Left: 11, Right: 29}}, to(-3*52, 3*52), to(38, 42), api.OK},
		{changed(func(v *api.LevelVial) { v.Wrong = 0 }), []api.LevelReading{{Left: 11, Right: 29}}, to(-104, 104), to(38, 42), api.OK},
		{changed(func(v *api.LevelVial) { v.Zero = to(40, 40) }), []api.LevelReading{{Left: 14, Right: 32}}, to(250, 364), to(40, 40), api.OK},
		// no zero from 38 to 42 is between 46 and 28
		{shopVial(), []api.LevelReading{all[0], {Left: 4, Right: 22, Turned: true}}, to(0, 0), to(0, 0), api.ErrLevelFalse},
		{shopVial(), []api.LevelReading{{Left: 12, Right: 30}, {Left: 12, Right: 30, Turned: true}}, to(-52, 52), to(41, 42), api.OK},
		// a single zero and value, read without error: nothing is left open
		{api.LevelVial{Marks: 10, Length: to(2, 2), Value: to(7, 7), Zero: to(9, 9)}, []api.LevelReading{{Left: 1, Right: 3}}, to(-35, -35), to(9, 9), api.OK},
		{api.LevelVial{Marks: 10, Length: to(2, 2), Value: to(7, 7), Zero: to(4, 4)}, []api.LevelReading{{Left: 1, Right: 3, Turned: true}}, to(0, 0), to(4, 4), api.OK},
		{api.LevelVial{Marks: 10, Length: to(2, 2), Value: to(7, 7), Zero: to(0, 0)}, []api.LevelReading{{Left: 0, Right: 2, Turned: true}}, to(-14, -14), to(0, 0), api.OK},
		{widest, []api.LevelReading{{Left: 199, Right: 200}}, to(-9*500, 407*500), to(0, 400), api.OK},
		{widest, []api.LevelReading{{Left: 199, Right: 200, Turned: true}}, to(-407*500, 9*500), to(0, 400), api.OK},
		{widest, []api.LevelReading{{Left: 199, Right: 200, Turned: true}, {Left: 0, Right: 1}}, to(-207*500, -191), to(192, 208), api.OK},
	} {
		if tilt, zero, e := level.Tilt(x.v, x.l); tilt != x.tilt || zero != x.zero || e != x.e {
			t.Errorf("Tilt(%v, %v): %v, %v, %d", x.v, x.l, tilt, zero, e)
		}
	}
}

// four are readings of which any three can be so, each three with another zero, but not all of them.
func four() []api.LevelReading {
	return []api.LevelReading{{Left: 11, Right: 29}, {Left: 10, Right: 29, Turned: true}, {Left: 11, Right: 30, Turned: true}, {Left: 12, Right: 30}}
}

// P3.4
func TestFalse(t *testing.T) {
	all := shopReadings()
	wide := changed(func(v *api.LevelVial) { v.Zero = to(0, 80) })
	for _, x := range []struct {
		v    api.LevelVial
		l    []api.LevelReading
		want []int
		e    api.Errno
	}{
		{shopVial(), all, []int{1, 2}, api.OK},
		{shopVial(), all[1:], []int{0, 1}, api.OK},
		{shopVial(), all[:1], nil, api.ErrNone},
		{shopVial(), all[:2], nil, api.ErrNone},
		{shopVial(), []api.LevelReading{all[0], all[2]}, nil, api.ErrNone},
		{shopVial(), slices.Repeat(all[:1], 8), nil, api.ErrNone},
		{shopVial(), append(slices.Repeat(all[:1], 6), all[1], all[2]), []int{6, 7}, api.OK},
		// of several lists the first one
		{shopVial(), []api.LevelReading{all[2], all[2], all[1], all[1]}, []int{0, 2}, api.OK},
		{shopVial(), []api.LevelReading{all[0], all[2], all[1], all[2]}, []int{1, 2}, api.OK},
		// fewer ones come before first ones
		{wide, four(), []int{0, 1, 2, 3}, api.OK},
		{wide, four()[:3], nil, api.ErrNone},
		{wide, four()[1:], nil, api.ErrNone},
		{wide, append(four()[:2], four()[3]), nil, api.ErrNone},
		{wide, append(four()[:1], four()[2:]...), nil, api.ErrNone},
		{wide, append(four(), api.LevelReading{Left: 10, Right: 28}), []int{3, 4}, api.OK},
		{wide, append([]api.LevelReading{{Left: 11, Right: 29}}, four()...), []int{0, 2, 3, 4}, api.OK},
		// direct and turned readings contradict each other by their zeros alone
		{shopVial(), []api.LevelReading{{Left: 14, Right: 32}, {Left: 4, Right: 22, Turned: true}}, []int{0, 1}, api.OK},
		{wide, []api.LevelReading{{Left: 14, Right: 32}, {Left: 4, Right: 22, Turned: true}}, nil, api.ErrNone},
	} {
		if l, e := level.False(x.v, x.l); !slices.Equal(l, x.want) || e != x.e {
			t.Errorf("False(%v, %v): %v, %d", x.v, x.l, l, e)
		}
	}
}

// P3.5
func TestNext(t *testing.T) {
	all := shopReadings()
	for _, x := range []struct {
		v      api.LevelVial
		l      []api.LevelReading
		turned bool
		width  int
		e      api.Errno
	}{
		{shopVial(), all[:1], true, 118, api.OK},
		{shopVial(), all[:2], false, 112, api.OK}, // neither kind helps
		{shopVial(), all, false, 0, api.ErrLevelFalse},
		{shopVial(), slices.Repeat(all[:1], 7), true, 118, api.OK},
		{shopVial(), slices.Repeat(all[:1], 8), false, 0, api.ErrFull},
		// that there are eight is said before that they cannot all be so
		{shopVial(), append(slices.Repeat(all[:1], 6), all[1:]...), false, 0, api.ErrFull},
		{shopVial(), append(slices.Repeat(all[:1], 5), all[1:]...), false, 0, api.ErrLevelFalse},
		// what is known without error is known as well by either kind: a direct one
		{api.LevelVial{Marks: 40, Length: to(18, 18), Value: to(50, 50), Zero: to(40, 40)}, all[:1], false, 0, api.OK},
		{api.LevelVial{Marks: 40, Length: to(18, 18), Value: to(50, 50), Zero: to(40, 40)}, all[1:2], false, 0, api.OK},
		{api.LevelVial{Marks: 40, Length: to(18, 18), Value: to(50, 53), Zero: to(40, 40)}, all[:1], false, 18, api.OK},
		// with a zero of 80 a turned bubble, or a direct one, would be beyond the marks
		{api.LevelVial{Marks: 40, Length: to(18, 18), Value: to(50, 53), Zero: to(80, 80), Wrong: 1}, []api.LevelReading{{Left: 1, Right: 19}}, false, 61*53 - 59*50, api.OK},
		{api.LevelVial{Marks: 40, Length: to(18, 18), Value: to(50, 53), Zero: to(78, 80), Wrong: 1}, []api.LevelReading{{Left: 1, Right: 19, Turned: true}}, true, 61*53 - 57*50, api.OK},
		// a turned middle of 76 or more is one, though no bubble's ends could be there
		{api.LevelVial{Marks: 40, Length: to(18, 18), Value: to(50, 50), Zero: to(45, 50)}, []api.LevelReading{{Left: 1, Right: 19}}, true, 0, api.OK},
		{api.LevelVial{Marks: 40, Length: to(18, 18), Value: to(50, 50), Zero: to(48, 60)}, []api.LevelReading{{Left: 1, Right: 19}}, true, 0, api.OK},
		{api.LevelVial{Marks: 40, Length: to(18, 18), Value: to(50, 50), Zero: to(50, 60)}, []api.LevelReading{{Left: 1, Right: 19}}, true, 0, api.OK},
		{api.LevelVial{Marks: 40, Length: to(18, 18), Value: to(50, 50), Zero: to(51, 60)}, []api.LevelReading{{Left: 1, Right: 19}}, false, 450, api.OK},
		{api.LevelVial{Marks: 40, Length: to(18, 18), Value: to(50, 50), Zero: to(0, 10)}, []api.LevelReading{{Left: 1, Right: 19}}, true, 0, api.OK},
		{api.LevelVial{Marks: 40, Length: to(18, 18), Value: to(50, 50), Zero: to(0, 9)}, []api.LevelReading{{Left: 1, Right: 19}}, false, 450, api.OK},
	} {
		if turned, width, e := level.Next(x.v, x.l); turned != x.turned || width != x.width || e != x.e {
			t.Errorf("Next(%v, %v): %v, %d, %d", x.v, x.l, turned, width, e)
		}
	}
}

// P3.2 to P3.5
func TestReadingsAll(t *testing.T) {
	var d dice
	var fewest [6]int
	direct, turned := 0, 0
	for range 4000 {
		v := d.small()
		l := d.readings(v, d.truth(v, d.from(-4, 4)), 5, 2)
		if d.from(0, 4) == 0 {
			v, l = d.fours()
		}
		if len(l) == 0 {
			continue
		}
		truths := slowTruths(v, sights(l))
		tilt, zero := slowHull(truths)
		if a, b, e := level.Tilt(v, l); a != tilt || b != zero || (e == api.OK) != (truths != nil) || e != api.OK && e != api.ErrLevelFalse {
			t.Fatalf("Tilt(%v, %v): %v, %v, %d, not %v, %v", v, l, a, b, e, tilt, zero)
		}
		for range 20 {
			one := d.truth(v, d.from(-4, 4))
			one.Tilt += d.from(-2, 2)
			if yes, e := level.Can(v, l, one); yes != slowAllCan(v, sights(l), one) || e != api.OK {
				t.Fatalf("Can(%v, %v, %v): %v, %d", v, l, one, yes, e)
			}
		}
		got, e := level.False(v, l)
		if truths == nil {
			want := slowFalse(v, l)
			if fewest[len(want)]++; !slices.Equal(got, want) || e != api.OK {
				t.Fatalf("False(%v, %v): %v, %d, not %v", v, l, got, e, want)
			}
			if kind, gain, e := level.Next(v, l); kind || gain != 0 || e != api.ErrLevelFalse {
				t.Fatalf("Next(%v, %v): %v, %d, %d", v, l, kind, gain, e)
			}
			continue
		}
		if got != nil || e != api.ErrNone {
			t.Fatalf("False(%v, %v): %v, %d", v, l, got, e)
		}
		gains := [2]int{slowGain(v, truths, false), slowGain(v, truths, true)}
		want := gains[0] < 0 || gains[1] >= 0 && gains[1] < gains[0]
		gain := gains[0]
		if direct++; want {
			gain = gains[1]
			turned++
		}
		if kind, width, e := level.Next(v, l); kind != want || width != gain || e != api.OK {
			t.Fatalf("Next(%v, %v): %v, %d, %d, not %v", v, l, kind, width, e, gains)
		}
	}
	if fewest[2] < 100 || fewest[4] < 20 || turned < 100 || direct-turned < 100 {
		t.Errorf("false ones %v; %d kinds, %d of them turned", fewest, direct, turned)
	}
}

// P3.6
func TestClicks(t *testing.T) {
	for _, x := range []struct {
		tilt         api.Span
		worth, bound int
		want         int
		e            api.Errno
	}{
		{to(200, 312), 20, 60, -13, api.OK},
		{to(200, 312), 20, 50, 0, api.ErrNone},
		{to(-312, -200), 20, 60, 13, api.OK},
		{to(-312, -200), 20, 59, 0, api.ErrNone},
		// the least number without its sign
		{to(0, 0), 1, 0, 0, api.OK},
		{to(-60, 60), 7, 60, 0, api.OK},
		{to(-60, 61), 1, 60, 0, api.ErrNone},
		{to(-59, 61), 1, 60, -1, api.OK},
		{to(-61, 59), 1, 60, 1, api.OK},
		{to(-59, 61), 2, 60, 0, api.ErrNone},
		{to(5, 5), 3, 10, 0, api.OK},
		{to(11, 11), 3, 10, -1, api.OK},
		{to(-11, -11), 3, 10, 1, api.OK},
		{to(13, 13), 3, 10, -1, api.OK},
		{to(14, 14), 3, 10, -2, api.OK},
		{to(-14, -14), 3, 10, 2, api.OK},
		{to(1, 1), 100, 49, 0, api.OK},
		{to(50, 50), 100, 49, 0, api.ErrNone},
		{to(50, 50), 100, 50, 0, api.OK},
		{to(51, 51), 100, 49, -1, api.OK},
		{to(-51, -51), 100, 49, 1, api.OK},
		{to(-50, -50), 100, 49, 0, api.ErrNone},
		{to(-1000000, 1000000), 1, 1000000, 0, api.OK},
		{to(-1000000, 1000000), 1, 999999, 0, api.ErrNone},
		{to(1000000, 1000000), 1, 0, -1000000, api.OK},
		{to(-1000000, -1000000), 1, 0, 1000000, api.OK},
		{to(-1000000, -1000000), 100, 99, 10000, api.OK}, // 9999 would leave 100
		{to(1000000, 1000000), 100, 1000000, 0, api.OK},
		{to(1, 0), 20, 60, 0, api.ErrRange},
		{to(-1000001, 0), 20, 60, 0, api.ErrRange},
		{to(0, 1000001), 20, 60, 0, api.ErrRange},
		{to(1000001, 1000001), 20, 60, 0, api.ErrRange},
		{to(-1000001, -1000001), 20, 60, 0, api.ErrRange},
		{to(math.MinInt, math.MaxInt), 20, 60, 0, api.ErrRange},
		{to(200, 312), 0, 60, 0, api.ErrRange},
		{to(200, 312), -20, 60, 0, api.ErrRange},
		{to(200, 312), 101, 60, 0, api.ErrRange},
		{to(200, 312), math.MinInt, 60, 0, api.ErrRange},
		{to(200, 312), math.MaxInt, 60, 0, api.ErrRange},
		{to(200, 312), 20, -1, 0, api.ErrRange},
		{to(200, 312), 20, 1000001, 0, api.ErrRange},
		{to(200, 312), 20, math.MinInt, 0, api.ErrRange},
		{to(200, 312), 20, math.MaxInt, 0, api.ErrRange},
	} {
		if n, e := level.Clicks(x.tilt, x.worth, x.bound); n != x.want || e != x.e {
			t.Errorf("Clicks(%v, %d, %d): %d, %d", x.tilt, x.worth, x.bound, n, e)
		}
	}
}

// P3.7: a stock, or a wish, that is none.
func TestNoStock(t *testing.T) {
	v, w := []api.LevelVial{shopVial()}, api.LevelWish{Range: 800, Fault: 400}
	for _, x := range []struct {
		stock  []api.LevelVial
		prices []int
		w      api.LevelWish
	}{
		{nil, nil, w},
		{[]api.LevelVial{}, []int{}, w},
		{nil, []int{30}, w},
		{slices.Repeat(v, 11), slices.Repeat([]int{30}, 11), w},
		{v, nil, w},
		{v, []int{30, 40}, w},
		{slices.Repeat(v, 2), []int{30}, w},
		{v, []int{-1}, w},
		{v, []int{1001}, w},
		{v, []int{math.MinInt}, w},
		{v, []int{math.MaxInt}, w},
		{slices.Repeat(v, 2), []int{30, 1001}, w},
		{v, []int{30}, api.LevelWish{Range: -1, Fault: 400}},
		{v, []int{30}, api.LevelWish{Range: 100001, Fault: 400}},
		{v, []int{30}, api.LevelWish{Range: math.MinInt, Fault: 400}},
		{v, []int{30}, api.LevelWish{Range: math.MaxInt, Fault: 400}},
		{v, []int{30}, api.LevelWish{Range: 800, Fault: -1}},
		{v, []int{30}, api.LevelWish{Range: 800, Fault: 100001}},
		{v, []int{30}, api.LevelWish{Range: 800, Fault: math.MinInt}},
		{v, []int{30}, api.LevelWish{Range: 800, Fault: math.MaxInt}},
	} {
		if i, e := level.Choose(x.stock, x.prices, x.w); i != 0 || e != api.ErrLevelStock {
			t.Errorf("Choose(%v, %v, %v): %d, %d", x.stock, x.prices, x.w, i, e)
		}
	}
	for _, wrong := range invalidVials() {
		if i, e := level.Choose([]api.LevelVial{shopVial(), wrong}, []int{30, 40}, w); i != 0 || e != api.ErrLevelStock {
			t.Errorf("Choose with %v: %d, %d", wrong, i, e)
		}
	}
}

// P3.7
func TestChoose(t *testing.T) {
	two := []api.LevelVial{shopVial(), otherVial()}
	long := api.LevelVial{Marks: 10, Length: to(1, 10), Value: to(1, 1), Zero: to(10, 10)}
	many := slices.Repeat([]api.LevelVial{otherVial()}, 10)
	for _, x := range []struct {
		stock  []api.LevelVial
		prices []int
		w      api.LevelWish
		want   int
		e      api.Errno
	}{
		{two, []int{30, 40}, api.LevelWish{Range: 800, Fault: 400}, 0, api.OK},
		{two, []int{30, 40}, api.LevelWish{Range: 600, Fault: 300}, 1, api.OK},
		{two, []int{30, 40}, api.LevelWish{Range: 800, Fault: 300}, 0, api.ErrNone},
		{two, []int{30, 40}, api.LevelWish{Range: 600, Fault: 400}, 0, api.OK},
		{two, []int{40, 30}, api.LevelWish{Range: 600, Fault: 400}, 1, api.OK},
		{two, []int{30, 30}, api.LevelWish{Range: 600, Fault: 400}, 0, api.OK},
		{two, []int{1000, 0}, api.LevelWish{Range: 600, Fault: 400}, 1, api.OK},
		// the range of the first one is 50 times 18, its fault 23 times 52 less 17 times 50
		{two, []int{30, 40}, api.LevelWish{Range: 900, Fault: 346}, 0, api.OK},
		{two, []int{30, 40}, api.LevelWish{Range: 901, Fault: 346}, 0, api.ErrNone},
		{two, []int{30, 40}, api.LevelWish{Range: 900, Fault: 345}, 0, api.ErrNone},
		// those of the other one are 20 times 34, and 20 times 6
		{two, []int{30, 40}, api.LevelWish{Range: 680, Fault: 120}, 1, api.OK},
		{two, []int{30, 40}, api.LevelWish{Range: 681, Fault: 120}, 0, api.ErrNone},
		{two, []int{30, 40}, api.LevelWish{Range: 680, Fault: 119}, 0, api.ErrNone},
		{many, []int{9, 8, 7, 6, 5, 4, 4, 5, 6, 7}, api.LevelWish{}, 0, api.ErrNone},
		{many, []int{9, 8, 7, 6, 5, 4, 4, 5, 6, 7}, api.LevelWish{Fault: 120}, 5, api.OK},
		// a bubble as long as the vial has one place alone
		{[]api.LevelVial{long}, []int{0}, api.LevelWish{}, 0, api.OK},
		{[]api.LevelVial{long}, []int{0}, api.LevelWish{Range: 1}, 0, api.ErrNone},
		{[]api.LevelVial{changed(func(v *api.LevelVial) { v.Zero = to(19, 40) })}, []int{0}, api.LevelWish{Fault: 100000}, 0, api.ErrNone},
		{[]api.LevelVial{changed(func(v *api.LevelVial) { v.Zero = to(20, 40) })}, []int{0}, api.LevelWish{Fault: 100000}, 0, api.OK},
		{[]api.LevelVial{changed(func(v *api.LevelVial) { v.Zero = to(40, 60) })}, []int{0}, api.LevelWish{Fault: 100000}, 0, api.OK},
		{[]api.LevelVial{changed(func(v *api.LevelVial) { v.Zero = to(40, 61) })}, []int{0}, api.LevelWish{Fault: 100000}, 0, api.ErrNone},
		{[]api.LevelVial{changed(func(v *api.LevelVial) { v.Zero = to(38, 45) })}, []int{0}, api.LevelWish{Range: 750, Fault: 100000}, 0, api.OK},
		{[]api.LevelVial{changed(func(v *api.LevelVial) { v.Zero = to(38, 45) })}, []int{0}, api.LevelWish{Range: 751, Fault: 100000}, 0, api.ErrNone},
		{[]api.LevelVial{changed(func(v *api.LevelVial) { v.Zero = to(35, 42) })}, []int{0}, api.LevelWish{Range: 751, Fault: 100000}, 0, api.ErrNone},
		{validVials(), []int{1, 2, 3, 4, 5, 6}, api.LevelWish{Range: 100000, Fault: 100000}, 0, api.ErrNone},
		{[]api.LevelVial{{Marks: 200, Length: to(1, 1), Value: to(500, 500), Zero: to(200, 200)}}, []int{1000}, api.LevelWish{Range: 99500}, 0, api.OK},
		{[]api.LevelVial{{Marks: 200, Length: to(1, 1), Value: to(500, 500), Zero: to(200, 200)}}, []int{1000}, api.LevelWish{Range: 99501}, 0, api.ErrNone},
	} {
		if i, e := level.Choose(x.stock, x.prices, x.w); i != x.want || e != x.e {
			t.Errorf("Choose(%v, %v, %v): %d, %d", x.stock, x.prices, x.w, i, e)
		}
	}
}

// P3.6, P3.7
func TestStockAll(t *testing.T) {
	var d dice
	clicks, chosen := 0, 0
	for range 20000 {
		tilt, worth, bound := d.span(-1500, 1500, 300), d.from(1, 100), d.from(0, 200)
		want, some := slowClicks(tilt, worth, bound)
		n, e := level.Clicks(tilt, worth, bound)
		if n != want && some || (e == api.OK) != some || e != api.OK && e != api.ErrNone {
			t.Fatalf("Clicks(%v, %d, %d): %d, %d, not %d", tilt, worth, bound, n, e, want)
		}
		if some && want != 0 {
			clicks++
		}
	}
	for range 300 {
		var stock []api.LevelVial
		var faults, prices []int
		for range d.from(1, 4) {
			v := d.small()
			stock, faults, prices = append(stock, v), append(faults, slowFault(v)), append(prices, d.from(0, 3))
		}
		for range 20 {
			w := api.LevelWish{Range: d.from(0, 30), Fault: faults[d.from(0, len(faults)-1)] + d.from(-1, 1)}
			if w.Fault < 0 {
				w.Fault = 0
			}
			want := slowChoose(stock, faults, prices, w)
			i, e := level.Choose(stock, prices, w)
			if i != max(want, 0) || (e == api.OK) != (want >= 0) || e != api.OK && e != api.ErrNone {
				t.Fatalf("Choose(%v, %v, %v): %d, %d, not %d", stock, prices, w, i, e, want)
			}
			if want >= 0 {
				chosen++
			}
		}
	}
	if clicks < 5000 || chosen < 1000 {
		t.Errorf("%d clicks, %d vials", clicks, chosen)
	}
}
