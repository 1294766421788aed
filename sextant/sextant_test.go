package sextant_test

import (
	"math"
	"reflect"
	"slices"
	"testing"

	"octant/api"
	"octant/sextant"
)

// to returns a span.
func to(low, high int) api.Span { return api.Span{Low: low, High: high} }

// has reports whether a number lies in a span.
func has(s api.Span, x int) bool { return s.Low <= x && x <= s.High }

// shopSextant, shopSuns, shopTrials and shopStock are those of the document's examples.
func shopSextant() api.Sextant {
	return api.Sextant{
		Step:  36000,
		Table: []api.Span{to(0, 0), to(-10, 10), to(20, 40)},
		Index: to(-30, -20),
		Wrong: 5,
		Shade: []api.Span{to(0, 6), to(-4, 4)},
	}
}

func shopSuns() []api.SextantSun {
	return []api.SextantSun{{On: 1915, Off: 1865}, {On: 1912, Off: 1862}}
}

// trial returns a trial.
func trial(at, shades, angle int) api.SextantTrial {
	return api.SextantTrial{SextantReading: api.SextantReading{At: at, Shades: shades}, True: angle}
}

// shopTrials are three, of which the first two can be so.
func shopTrials() []api.SextantTrial {
	return []api.SextantTrial{trial(36000, 0, 35985), trial(72000, 0, 72010), trial(36000, 0, 35960)}
}

// part returns a part of a stock.
func part(kind, price int, spans ...api.Span) api.SextantPart {
	return api.SextantPart{Kind: kind, Price: price, Errors: spans}
}

func shopStock() []api.SextantPart {
	return []api.SextantPart{
		part(0, 50, to(0, 4), to(0, 10)),
		part(0, 30, to(-3, 3), to(-12, 12)),
		part(1, 20, to(0, 0), to(2, 6)),
		part(2, 10, to(-2, 2), to(-2, 2)),
		part(2, 25, to(0, 1), to(0, 1)),
	}
}

// changed returns the sextant of the examples with a change.
func changed(change func(s *api.Sextant)) api.Sextant {
	s := shopSextant()
	change(&s)
	return s
}

// farSextant returns a sextant that is known as badly as can be, with so many angles in its table, so far apart.
func farSextant(nodes, step int) api.Sextant {
	return api.Sextant{
		Step:  step,
		Table: slices.Repeat([]api.Span{to(-600, 600)}, nodes),
		Index: to(-1800, 1800),
		Wrong: 60,
		Shade: slices.Repeat([]api.Span{to(-120, 120)}, 6),
	}
}

func validSextants() []api.Sextant {
	return []api.Sextant{
		shopSextant(),
		farSextant(2, 1),
		farSextant(2, 72000),
		farSextant(8, 72000),
		farSextant(9, 63000),
		farSextant(12, 45818),
		{Step: 1, Table: make([]api.Span, 2)},
		{Step: 72000, Table: []api.Span{to(-600, -600), to(600, 600)}, Index: to(1800, 1800), Shade: []api.Span{to(120, 120)}},
		{Step: 7, Table: make([]api.Span, 12), Index: to(-1800, -1800), Shade: []api.Span{to(-120, -120)}},
	}
}

func invalidSextants() []api.Sextant {
	list := []api.Sextant{
		{}, farSextant(0, 1), farSextant(1, 1), farSextant(13, 1), farSextant(8, 72001), farSextant(2, 72001),
		farSextant(9, 63001), farSextant(10, 56001), farSextant(11, 50401), farSextant(12, 45819), farSextant(12, 72000),
		changed(func(s *api.Sextant) { s.Shade = make([]api.Span, 7) }),
	}
	for _, step := range []int{0, -1, -36000, 72001, math.MinInt, math.MaxInt, math.MaxInt/2 + 1} {
		list = append(list, changed(func(s *api.Sextant) { s.Step = step }))
	}
	for _, x := range []api.Span{to(-601, 0), to(0, 601), to(601, 601), to(-601, -601), to(1, 0), to(-9, -10), to(math.MinInt, math.MaxInt), to(math.MaxInt, math.MinInt)} {
		for k := range 3 {
			list = append(list, changed(func(s *api.Sextant) { s.Table[k] = x }))
		}
	}
	for _, x := range []api.Span{to(-1801, 0), to(0, 1801), to(1801, 1801), to(-1801, -1801), to(1, 0), to(-20, -30), to(math.MinInt, math.MaxInt), to(math.MaxInt, math.MinInt)} {
		list = append(list, changed(func(s *api.Sextant) { s.Index = x }))
	}
	for _, wrong := range []int{-1, 61, math.MinInt, math.MaxInt} {
		list = append(list, changed(func(s *api.Sextant) { s.Wrong = wrong }))
	}
	for _, x := range []api.Span{to(-121, 0), to(0, 121), to(121, 121), to(-121, -121), to(1, 0), to(-9, -10), to(math.MinInt, math.MaxInt), to(math.MaxInt, math.MinInt)} {
		for k := range 2 {
			list = append(list, changed(func(s *api.Sextant) { s.Shade[k] = x }))
		}
	}
	return list
}

// P5.1
func TestCheck(t *testing.T) {
	for _, s := range validSextants() {
		if e := sextant.Check(s); e != api.OK {
			t.Errorf("Check(%v): %d", s, e)
		}
	}
	for _, s := range invalidSextants() {
		if e := sextant.Check(s); e != api.ErrSextant {
			t.Errorf("Check(%v): %d", s, e)
		}
	}
}

// shopInput returns an input with which each call but False has a result.
func shopInput() input {
	return input{
		sextant: shopSextant(), reading: api.SextantReading{At: 54000, Shades: 1},
		diameter: to(1880, 1900), suns: shopSuns(), trials: shopTrials()[:2],
		stock: shopStock(), bound: 20,
	}
}

// P5.1: the error of the sextant comes first, and no result comes with it.
func TestSextantFirst(t *testing.T) {
	wrong := input{reading: api.SextantReading{At: -1}}
	for _, c := range sextantCalls() {
		for _, s := range invalidSextants() {
			for _, in := range []input{shopInput(), wrong} {
				in.sextant = s
				if r := c.do(in); !reflect.DeepEqual(r, result{e: api.ErrSextant}) {
					t.Errorf("%s with %v: %v", c.name, s, r)
				}
			}
		}
		wrong.sextant = shopSextant()
		if r := c.do(wrong); c.own != api.OK && !reflect.DeepEqual(r, result{e: c.own}) {
			t.Errorf("%s with what is wrong: %v", c.name, r)
		}
	}
}

// P5.1
func TestRead(t *testing.T) {
	s := shopSextant()
	// what is rounded down is below 0, above 0, and even
	down := api.Sextant{Step: 3, Table: []api.Span{to(-2, 2), to(-4, 3), to(5, 6)}}
	for _, x := range []struct {
		s          api.Sextant
		at, shades int
		want       api.Span
	}{
		{s, 18000, 0, to(17960, 17990)},
		{s, 54000, 1, to(53970, 54016)},
		{s, 1, 0, to(-35, -14)},
		{s, 0, 0, to(-35, -15)},
		{s, 36000, 0, to(35955, 35995)},
		{s, 72000, 0, to(71985, 72025)},
		{s, 35999, 0, to(35954, 35993)},
		{s, 36001, 0, to(35956, 35996)},
		{s, 71999, 0, to(71983, 72023)},
		{s, 0, 1, to(-35, -9)},
		{s, 0, 2, to(-39, -11)},
		{s, 72000, 3, to(71981, 72035)},
		{down, 0, 0, to(-2, 2)},
		{down, 1, 0, to(-2, 3)},    // -8/3 and 7/3
		{down, 2, 0, to(2-4, 2+2)}, // -10/3 and 8/3
		{down, 3, 0, to(3-4, 3+3)}, //
		{down, 4, 0, to(4-1, 4+4)}, // -3/3 and 12/3
		{down, 5, 0, to(5+2, 5+5)}, // 6/3 and 15/3
		{down, 6, 0, to(6+5, 6+6)}, //
		{api.Sextant{Step: 72000, Table: []api.Span{to(-600, -600), to(600, 600)}}, 71999, 0, to(72598, 72598)},
		{api.Sextant{Step: 72000, Table: []api.Span{to(600, 600), to(-600, -600)}}, 71999, 0, to(71399, 71399)},
		{farSextant(8, 72000), 504000, 63, to(504000-3180, 504000+3180)},
		{farSextant(8, 72000), 503999, 32, to(503999-2580, 503999+2580)},
		{farSextant(2, 1), 1, 0, to(1-2460, 1+2460)},
	} {
		if got, e := sextant.Read(x.s, api.SextantReading{At: x.at, Shades: x.shades}); got != x.want || e != api.OK {
			t.Errorf("Read(%v) of %d with %b: %v, %d, not %v", x.s, x.at, x.shades, got, e, x.want)
		}
	}
	plain := changed(func(s *api.Sextant) { s.Shade = nil })
	for _, x := range []struct {
		s          api.Sextant
		at, shades int
	}{
		{s, -1, 0}, {s, 72001, 0}, {s, 108000, 0}, {s, -36000, 1}, {s, math.MinInt, 0}, {s, math.MaxInt, 0},
		{s, 0, -1}, {s, 0, 4}, {s, 0, 5}, {s, 0, 1 << 40}, {s, 0, math.MinInt}, {s, 0, math.MaxInt},
		{plain, 0, 1}, {plain, 0, -1}, {farSextant(8, 72000), 504001, 0}, {farSextant(8, 72000), 504000, 64},
	} {
		if got, e := sextant.Read(x.s, api.SextantReading{At: x.at, Shades: x.shades}); got != (api.Span{}) || e != api.ErrSextantAt {
			t.Errorf("Read(%v) of %d with %b: %v, %d", x.s, x.at, x.shades, got, e)
		}
	}
}

// P5.1, P5.4
func TestReadAll(t *testing.T) {
	var d dice
	var classes [4]int
	for range 300 {
		s := d.small()
		truths := allTruths(s)
		for range 6 {
			x := d.reading(s)
			want := slowRead(s, truths, x)
			if got, e := sextant.Read(s, x); got != want || e != api.OK {
				t.Fatalf("Read(%v, %v): %v, %d, not %v", s, x, got, e, want)
			}
		}
	}
	for range 40 {
		s := d.small()
		s.Step, s.Table = d.from(1, 4), d.spans(d.from(2, 3), -9, 9, 4)
		s.Index.High += 20 * d.from(0, 1)
		want := slowFault(s, allTruths(s))
		class, fault, e := sextant.Class(s)
		if class != slowClass(want) || fault != want || e != api.OK {
			t.Fatalf("Class(%v): %d, %d, %d, not %d", s, class, fault, e, want)
		}
		classes[class]++
	}
	if classes[1] == 0 {
		t.Errorf("so many of each class: %v", classes)
	}
}

// P5.2
func TestIndex(t *testing.T) {
	s, l := shopSextant(), shopSuns()
	exact := changed(func(s *api.Sextant) { s.Wrong = 0 })
	zero := changed(func(s *api.Sextant) { s.Index = to(-30, 30) })
	for _, x := range []struct {
		s           api.Sextant
		diameter    api.Span
		l           []api.SextantSun
		index, disc api.Span
		e           api.Errno
	}{
		{s, to(1880, 1900), l[:1], to(-30, -20), to(1885, 1895), api.OK},
		{s, to(1880, 1900), l, to(-28, -22), to(1885, 1892), api.OK},
		{s, to(1880, 1900), []api.SextantSun{l[1], l[0]}, to(-28, -22), to(1885, 1892), api.OK},
		{s, to(1880, 1900), []api.SextantSun{l[0], l[1], l[0], l[1], l[0], l[1]}, to(-28, -22), to(1885, 1892), api.OK},
		// the diameter narrows the index error
		{s, to(1880, 1885), l[:1], to(-25, -25), to(1885, 1885), api.OK},
		{s, to(1895, 1900), l[:1], to(-25, -25), to(1895, 1895), api.OK},
		{s, to(1880, 1887), l[:1], to(-27, -23), to(1885, 1887), api.OK},
		{s, to(1880, 1884), l[:1], api.Span{}, api.Span{}, api.ErrSextantFalse},
		{s, to(1896, 1900), l[:1], api.Span{}, api.Span{}, api.ErrSextantFalse},
		// the index error narrows the diameter
		{s, to(1, 4000), []api.SextantSun{{On: 1919, Off: 1861}}, to(-30, -24), to(1885, 1895), api.OK},
		{s, to(1, 4000), []api.SextantSun{{On: 1924, Off: 1856}}, to(-30, -29), to(1889, 1891), api.OK},
		{s, to(1, 4000), []api.SextantSun{{On: 1925, Off: 1855}}, to(-30, -30), to(1890, 1890), api.OK},
		{s, to(1, 4000), []api.SextantSun{{On: 1926, Off: 1854}}, api.Span{}, api.Span{}, api.ErrSextantFalse},
		{s, to(1, 4000), []api.SextantSun{{On: 1905, Off: 1875}}, to(-20, -20), to(1890, 1890), api.OK},
		{s, to(1, 4000), []api.SextantSun{{On: 1904, Off: 1876}}, api.Span{}, api.Span{}, api.ErrSextantFalse},
		{s, to(1, 4000), []api.SextantSun{{On: 1865, Off: 1915}}, api.Span{}, api.Span{}, api.ErrSextantFalse},
		{zero, to(1, 4000), []api.SextantSun{{On: 1865, Off: 1915}}, to(20, 30), to(1885, 1895), api.OK},
		// each pair can be so, but not both
		{s, to(1, 4000), []api.SextantSun{l[0], {On: 1926, Off: 1876}}, api.Span{}, api.Span{}, api.ErrSextantFalse},
		{s, to(1, 4000), []api.SextantSun{l[0], {On: 1925, Off: 1875}}, to(-25, -25), to(1895, 1895), api.OK},
		// without wrong readings half of what is on and off must be a whole number
		{exact, to(1880, 1900), l[:1], to(-25, -25), to(1890, 1890), api.OK},
		{exact, to(1880, 1900), []api.SextantSun{{On: 1915, Off: 1866}}, api.Span{}, api.Span{}, api.ErrSextantFalse},
		{exact, to(1880, 1900), []api.SextantSun{l[0], {On: 1916, Off: 1865}}, api.Span{}, api.Span{}, api.ErrSextantFalse},
		// the farthest ones
		{farSextant(2, 1), to(1, 4000), []api.SextantSun{{On: 5800, Off: 2200}}, to(-1800, -1740), to(3940, 4000), api.OK},
		{farSextant(2, 1), to(4000, 4000), []api.SextantSun{{On: 5860, Off: 2140}}, to(-1800, -1800), to(4000, 4000), api.OK},
		{farSextant(2, 1), to(1, 4000), []api.SextantSun{{On: 6000, Off: 6000}}, api.Span{}, api.Span{}, api.ErrSextantFalse},
		{farSextant(2, 1), to(1, 1), []api.SextantSun{{On: 0, Off: 0}}, to(-59, 59), to(1, 1), api.OK},
		{farSextant(2, 1), to(1, 4000), []api.SextantSun{{On: 0, Off: 0}}, to(-59, 59), to(1, 60), api.OK},
	} {
		if index, disc, e := sextant.Index(x.s, x.diameter, x.l); index != x.index || disc != x.disc || e != x.e {
			t.Errorf("Index(%v, %v): %v, %v, %d, not %v, %v, %d", x.diameter, x.l, index, disc, e, x.index, x.disc, x.e)
		}
	}
}

// P5.2: what is no diameter, and what are no pairs.
func TestNoSun(t *testing.T) {
	check := func(diameter api.Span, l []api.SextantSun) {
		t.Helper()
		if index, disc, e := sextant.Index(shopSextant(), diameter, l); index != (api.Span{}) || disc != (api.Span{}) || e != api.ErrSextantSun {
			t.Errorf("Index(%v, %v): %v, %v, %d", diameter, l, index, disc, e)
		}
	}
	for _, s := range []api.Span{{}, to(0, 1900), to(-1, 1900), to(1880, 4001), to(4001, 4001), to(1900, 1880), to(0, 0), to(math.MinInt, math.MaxInt), to(math.MaxInt, math.MinInt)} {
		check(s, shopSuns())
	}
	check(to(1880, 1900), nil)
	check(to(1880, 1900), []api.SextantSun{})
	check(to(1880, 1900), slices.Repeat(shopSuns()[:1], 7))
	for _, x := range []int{-1, 6001, math.MinInt, math.MaxInt} {
		for _, p := range []api.SextantSun{{On: x, Off: 1865}, {On: 1915, Off: x}, {On: x, Off: x}} {
			check(to(1880, 1900), []api.SextantSun{p})
			check(to(1880, 1900), append(shopSuns(), p))
			check(to(1880, 1900), append([]api.SextantSun{p}, shopSuns()...))
			// that they are none is said before that they cannot be so
			check(to(1880, 1884), append(shopSuns(), p))
		}
	}
	for _, p := range []api.SextantSun{{On: 0, Off: 1865}, {On: 1915, Off: 0}, {On: 6000, Off: 1865}, {On: 1915, Off: 6000}} {
		if _, _, e := sextant.Index(shopSextant(), to(1, 4000), []api.SextantSun{p}); e != api.ErrSextantFalse {
			t.Errorf("Index by %v: %d", p, e)
		}
	}
}

// P5.2
func TestIndexAll(t *testing.T) {
	var d dice
	found, none := 0, 0
	for range 3000 {
		s := d.small()
		s.Index, s.Wrong = d.span(-12, 12, 9), d.from(0, 4)
		diameter := d.span(1, 40, 12)
		i, disc := d.in(s.Index)+d.from(-1, 1), d.in(diameter)+d.from(-1, 1)
		var l []api.SextantSun
		for range d.from(1, 3) {
			l = append(l, api.SextantSun{On: max(0, disc-i+d.from(-s.Wrong, s.Wrong)), Off: max(0, disc+i+d.from(-s.Wrong, s.Wrong))})
		}
		wantIndex, wantDisc := slowIndex(s, diameter, l)
		gotIndex, gotDisc, e := sextant.Index(s, diameter, l)
		if gotIndex != wantIndex.span || gotDisc != wantDisc.span || (e == api.OK) != wantIndex.some || e != api.OK && e != api.ErrSextantFalse {
			t.Fatalf("Index(%v, %v, %v): %v, %v, %d, not %v, %v", s, diameter, l, gotIndex, gotDisc, e, wantIndex, wantDisc)
		}
		if e == api.OK {
			found++
		} else {
			none++
		}
	}
	if found < 500 || none < 500 {
		t.Errorf("%d can be so, %d cannot", found, none)
	}
}

// P5.3
func TestTrial(t *testing.T) {
	s, l := shopSextant(), shopTrials()
	before := s.Table
	exact := api.Sextant{Step: 10, Table: []api.Span{to(0, 0), to(-9, 9)}, Index: to(-9, 9), Shade: []api.Span{to(0, 6), to(-2, 1)}}
	for _, x := range []struct {
		s     api.Sextant
		l     []api.SextantTrial
		table []api.Span
		index api.Span
		e     api.Errno
	}{
		{s, l[:2], []api.Span{to(0, 0), to(0, 10), to(25, 40)}, to(-30, -20), api.OK},
		{s, []api.SextantTrial{l[1], l[0]}, []api.Span{to(0, 0), to(0, 10), to(25, 40)}, to(-30, -20), api.OK},
		{s, l[:1], []api.Span{to(0, 0), to(0, 10), to(20, 40)}, to(-30, -20), api.OK},
		{s, l[1:2], []api.Span{to(0, 0), to(-10, 10), to(25, 40)}, to(-30, -20), api.OK},
		{s, l[2:], []api.Span{to(0, 0), to(-10, -5), to(20, 40)}, to(-30, -25), api.OK},
		{s, l[1:], []api.Span{to(0, 0), to(-10, -5), to(30, 40)}, to(-30, -25), api.OK},
		{s, l, nil, api.Span{}, api.ErrSextantFalse},
		{s, []api.SextantTrial{l[0], l[2]}, nil, api.Span{}, api.ErrSextantFalse},
		// nothing is narrowed
		{s, []api.SextantTrial{trial(0, 3, -25)}, before, to(-30, -20), api.OK},
		// the angle 0 has no correction: it tells of the index error alone, and so of all that is read elsewhere
		{s, []api.SextantTrial{trial(0, 0, -35)}, before, to(-30, -30), api.OK},
		{s, []api.SextantTrial{trial(0, 0, -15)}, before, to(-20, -20), api.OK},
		{s, []api.SextantTrial{trial(0, 0, -36)}, nil, api.Span{}, api.ErrSextantFalse},
		{s, []api.SextantTrial{trial(0, 0, -14)}, nil, api.Span{}, api.ErrSextantFalse},
		{s, []api.SextantTrial{trial(0, 0, -35), l[0]}, []api.Span{to(0, 0), to(10, 10), to(20, 40)}, to(-30, -30), api.OK},
		{s, []api.SextantTrial{trial(0, 0, -15), l[0]}, []api.Span{to(0, 0), to(0, 10), to(20, 40)}, to(-20, -20), api.OK},
		{s, []api.SextantTrial{l[0], trial(0, 0, -33), l[1]}, []api.Span{to(0, 0), to(8, 10), to(33, 40)}, to(-30, -28), api.OK},
		// shades
		{s, []api.SextantTrial{trial(36000, 1, 35985)}, []api.Span{to(0, 0), to(-6, 10), to(20, 40)}, to(-30, -20), api.OK},
		{s, []api.SextantTrial{trial(36000, 2, 35986)}, []api.Span{to(0, 0), to(-3, 10), to(20, 40)}, to(-30, -20), api.OK},
		{s, []api.SextantTrial{trial(36000, 3, 35986)}, []api.Span{to(0, 0), to(-9, 10), to(20, 40)}, to(-30, -20), api.OK},
		{s, []api.SextantTrial{trial(36000, 1, 35950)}, []api.Span{to(0, 0), to(-10, -10), to(20, 40)}, to(-30, -30), api.ErrSextantFalse},
		// all at one angle narrow it together
		{s, []api.SextantTrial{l[0], trial(36000, 0, 35993)}, []api.Span{to(0, 0), to(8, 10), to(20, 40)}, to(-22, -20), api.OK},
		{s, []api.SextantTrial{trial(36000, 0, 35993), l[0]}, []api.Span{to(0, 0), to(8, 10), to(20, 40)}, to(-22, -20), api.OK},
		{s, []api.SextantTrial{l[0], trial(36000, 0, 35996)}, nil, api.Span{}, api.ErrSextantFalse},
		// a shade may err otherwise each time
		{exact, []api.SextantTrial{trial(0, 1, 3), trial(0, 1, -3)}, exact.Table, to(-3, -3), api.OK},
		{exact, []api.SextantTrial{trial(0, 1, 3), trial(0, 1, -4)}, nil, api.Span{}, api.ErrSextantFalse},
		{exact, []api.SextantTrial{trial(0, 0, -3), trial(0, 1, 3), trial(0, 2, -5)}, exact.Table, to(-3, -3), api.OK},
		{exact, []api.SextantTrial{trial(0, 0, 9), trial(10, 0, 10)}, []api.Span{to(0, 0), to(-9, -9)}, to(9, 9), api.OK},
		{exact, []api.SextantTrial{trial(0, 0, 9), trial(10, 0, 9)}, nil, api.Span{}, api.ErrSextantFalse},
		// eight, and the farthest ones
		{s, slices.Repeat(l[:1], 8), []api.Span{to(0, 0), to(0, 10), to(20, 40)}, to(-30, -20), api.OK},
		{farSextant(8, 72000), []api.SextantTrial{trial(504000, 63, 504000+3180)}, append(farSextant(7, 1).Table, to(600, 600)), to(1800, 1800), api.OK},
		{farSextant(8, 72000), []api.SextantTrial{trial(0, 63, -3180)}, append([]api.Span{to(-600, -600)}, farSextant(7, 1).Table...), to(-1800, -1800), api.OK},
		{farSextant(8, 72000), []api.SextantTrial{trial(504000, 63, 504000+3181)}, nil, api.Span{}, api.ErrSextantFalse},
		{farSextant(8, 72000), []api.SextantTrial{trial(0, 63, -10000)}, nil, api.Span{}, api.ErrSextantFalse},
		{farSextant(8, 72000), []api.SextantTrial{trial(504000, 63, 510000)}, nil, api.Span{}, api.ErrSextantFalse},
	} {
		if x.e != api.OK {
			x.table, x.index = nil, api.Span{}
		}
		if table, index, e := sextant.Trial(x.s, x.l); !slices.Equal(table, x.table) || index != x.index || e != x.e {
			t.Errorf("Trial(%v, %v): %v, %v, %d, not %v, %v, %d", x.s, x.l, table, index, e, x.table, x.index, x.e)
		}
	}
}

// P5.3: what are no trials, of which also False says so.
func TestNoTrials(t *testing.T) {
	wrong := [][]api.SextantTrial{nil, {}, slices.Repeat(shopTrials()[:1], 9)}
	for _, x := range []api.SextantTrial{
		trial(1, 0, 0), trial(18000, 0, 18000), trial(35999, 0, 35985), trial(36001, 0, 35985), trial(-36000, 0, -30), trial(108000, 0, 108000), trial(72001, 0, 72000), trial(-1, 0, 0), trial(math.MinInt, 0, 0), trial(math.MaxInt, 0, 0),
		trial(36000, -1, 35985), trial(36000, 4, 35985), trial(36000, math.MinInt, 35985), trial(36000, math.MaxInt, 35985),
		trial(0, 0, -10001), trial(72000, 0, 510001), trial(0, 0, math.MinInt), trial(0, 0, math.MaxInt),
	} {
		wrong = append(wrong, []api.SextantTrial{x}, append(shopTrials()[:2], x), append([]api.SextantTrial{x}, shopTrials()[:2]...))
		// that they are none is said before that they cannot be so
		wrong = append(wrong, append(shopTrials(), x))
	}
	for _, l := range wrong {
		if table, index, e := sextant.Trial(shopSextant(), l); len(table) != 0 || index != (api.Span{}) || e != api.ErrSextantTrial {
			t.Errorf("Trial(%v): %v, %v, %d", l, table, index, e)
		}
		if list, e := sextant.False(shopSextant(), l); len(list) != 0 || e != api.ErrSextantTrial {
			t.Errorf("False(%v): %v, %d", l, list, e)
		}
	}
}

// P5.3
func TestFalse(t *testing.T) {
	s, l := shopSextant(), shopTrials()
	a, b, c := l[0], l[1], l[2]
	alone := trial(0, 0, -36) // cannot be so alone
	low, high := trial(0, 0, -35), trial(0, 0, -15)
	for _, x := range []struct {
		l    []api.SextantTrial
		want []int
		e    api.Errno
	}{
		{l, []int{0, 2}, api.OK},
		{l[:2], nil, api.ErrNone},
		{l[1:], nil, api.ErrNone},
		{l[:1], nil, api.ErrNone},
		{[]api.SextantTrial{a, c}, []int{0, 1}, api.OK},
		{[]api.SextantTrial{c, b, a}, []int{0, 2}, api.OK},
		{[]api.SextantTrial{b, a, c}, []int{1, 2}, api.OK},
		{[]api.SextantTrial{b, b, b, b, b, b, a, c}, []int{6, 7}, api.OK},
		{[]api.SextantTrial{a, a, a, a, a, a, a, c}, []int{0, 7}, api.OK},
		{[]api.SextantTrial{a, a, a, a, a, a, a, a}, nil, api.ErrNone},
		// of several lists the first one
		{[]api.SextantTrial{b, c, c, a, a}, []int{1, 3}, api.OK},
		{[]api.SextantTrial{a, b, c, a, c}, []int{0, 2}, api.OK},
		{[]api.SextantTrial{b, a, a, c, c}, []int{1, 3}, api.OK},
		// fewer ones come before first ones
		{[]api.SextantTrial{alone}, []int{0}, api.OK},
		{[]api.SextantTrial{a, c, alone}, []int{2}, api.OK},
		{[]api.SextantTrial{a, c, b, alone, alone}, []int{3}, api.OK},
		{[]api.SextantTrial{a, b, alone, c}, []int{2}, api.OK},
		// at two angles, by the index error
		{[]api.SextantTrial{low, c, b}, nil, api.ErrNone},
		{[]api.SextantTrial{high, a, b}, nil, api.ErrNone},
		{[]api.SextantTrial{high, b, c}, []int{0, 2}, api.OK},
		{[]api.SextantTrial{b, high, low}, []int{1, 2}, api.OK},
		{[]api.SextantTrial{low, trial(36000, 0, 35996)}, []int{1}, api.OK},
		{[]api.SextantTrial{trial(36000, 0, 35995), trial(0, 0, -34)}, []int{0, 1}, api.OK},
		{[]api.SextantTrial{trial(36000, 0, 35964), trial(72000, 0, 72025)}, []int{0, 1}, api.OK},
		{[]api.SextantTrial{trial(36000, 0, 35965), trial(72000, 0, 72025)}, nil, api.ErrNone},
		{[]api.SextantTrial{trial(36000, 2, 35960), trial(72000, 0, 72025)}, []int{0, 1}, api.OK},
		{[]api.SextantTrial{trial(36000, 2, 35961), trial(72000, 0, 72025)}, nil, api.ErrNone},
	} {
		if list, e := sextant.False(s, x.l); !slices.Equal(list, x.want) || e != x.e {
			t.Errorf("False(%v): %v, %d, not %v", x.l, list, e, x.want)
		}
	}
}

// P5.3
func TestTrialAll(t *testing.T) {
	var d dice
	var fewest [4]int
	narrowed := 0
	for range 2000 {
		s := d.small()
		l := d.trials(s, d.truth(s), d.from(1, 4), 1)
		table, index := slowTrial(s, l)
		if !index.some {
			table = nil
		}
		got, i, e := sextant.Trial(s, l)
		if !slices.Equal(got, table) || i != index.span || (e == api.OK) != index.some || e != api.OK && e != api.ErrSextantFalse {
			t.Fatalf("Trial(%v, %v): %v, %v, %d, not %v, %v", s, l, got, i, e, table, index)
		}
		if e == api.OK && i != s.Index && !slices.Equal(got, s.Table) {
			narrowed++
		}
		want := slowFalse(s, l)
		list, e := sextant.False(s, l)
		if !slices.Equal(list, want) || (e == api.OK) != (want != nil) || e != api.OK && e != api.ErrNone {
			t.Fatalf("False(%v, %v): %v, %d, not %v", s, l, list, e, want)
		}
		fewest[len(want)]++
	}
	if narrowed < 100 || fewest[0] < 300 || fewest[1] < 100 || fewest[2] < 100 {
		t.Errorf("%d are narrowed; so many have 0, 1, 2 .. that cannot be so: %v", narrowed, fewest)
	}
}

// P5.4
func TestClass(t *testing.T) {
	known := func(index int, table ...api.Span) api.Sextant {
		return api.Sextant{Step: 10, Table: table, Index: to(0, index)}
	}
	zero := to(0, 0)
	for _, x := range []struct {
		s            api.Sextant
		class, fault int
	}{
		{shopSextant(), 2, 54},
		{changed(func(s *api.Sextant) { s.Shade = nil }), 1, 40},
		{changed(func(s *api.Sextant) { s.Shade[0] = to(0, 0) }), 2, 48},
		{changed(func(s *api.Sextant) { s.Table[0] = to(-600, -570) }), 2, 64},
		{changed(func(s *api.Sextant) { s.Table[1] = to(-10, 11) }), 2, 55},
		{changed(func(s *api.Sextant) { s.Table[2] = to(20, 45) }), 2, 59},
		{known(0, zero, zero), 1, 0},
		{known(40, zero, zero), 1, 40},
		{known(41, zero, zero), 2, 41},
		{known(200, zero, zero), 2, 200},
		{known(201, zero, zero), 3, 201},
		{known(0, to(0, 9), to(-300, -259)), 2, 41},
		{known(0, to(-20, 20), to(5, 5), to(-600, 600)), 3, 1200},
		// in between it is rounded, but is no wider
		{known(0, to(-1, 0), to(0, 1), to(-1, 0)), 1, 1},
		{known(0, to(-3, 0), to(-2, 1)), 1, 3},
		{farSextant(8, 72000), 3, 6360},
		{api.Sextant{Step: 1, Table: []api.Span{zero, zero}, Wrong: 20}, 1, 40},
		{api.Sextant{Step: 1, Table: []api.Span{zero, zero}, Wrong: 21}, 2, 42},
		{api.Sextant{Step: 1, Table: []api.Span{zero, zero}, Shade: slices.Repeat([]api.Span{to(-3, 4)}, 6)}, 2, 42},
	} {
		if class, fault, e := sextant.Class(x.s); class != x.class || fault != x.fault || e != api.OK {
			t.Errorf("Class(%v): %d, %d, %d, not %d, %d", x.s, class, fault, e, x.class, x.fault)
		}
	}
}

// P5.5
func TestAssemble(t *testing.T) {
	shop := shopStock()
	narrow, zero := to(-1, 1), to(0, 0)
	// each kind has parts that are alike, the kinds are mixed
	alike := []api.SextantPart{
		part(2, 5, narrow, narrow), part(1, 5, narrow, narrow), part(0, 5, narrow, narrow),
		part(2, 5, narrow, narrow), part(1, 5, narrow, narrow), part(0, 5, narrow, narrow),
	}
	priced := func(prices ...int) []api.SextantPart {
		list := slices.Clone(alike)
		for i, price := range prices {
			list[i].Price = price
		}
		return list
	}
	// what errs to one side is good beside what errs to the other side
	sided := []api.SextantPart{
		part(0, 1, zero, to(9, 9)), part(0, 2, zero, to(-9, -9)), part(1, 1, zero, to(9, 9)), part(1, 3, zero, to(-9, -9)), part(2, 1, zero, zero),
	}
	wide := slices.Repeat([]api.Span{to(-1000, 1000)}, 12)
	for _, x := range []struct {
		stock []api.SextantPart
		bound int
		parts []int
		price int
		e     api.Errno
	}{
		{shop, 20, []int{1, 2, 3}, 60, api.OK},
		{shop, 19, []int{1, 2, 4}, 75, api.OK},
		{shop, 18, []int{0, 2, 3}, 80, api.OK},
		{shop, 17, []int{0, 2, 4}, 95, api.OK},
		{shop, 16, nil, 0, api.ErrNone},
		{shop, 0, nil, 0, api.ErrNone},
		{shop, 5000, []int{1, 2, 3}, 60, api.OK},
		{alike, 3, []int{2, 1, 0}, 15, api.OK},
		{alike, 2, nil, 0, api.ErrNone},
		{priced(4, 5, 5, 5, 5, 5), 3, []int{2, 1, 0}, 14, api.OK},
		{priced(5, 5, 5, 4, 5, 4), 3, []int{5, 1, 3}, 13, api.OK},
		{priced(5, 5, 5, 5, 4, 5), 3, []int{2, 4, 0}, 14, api.OK},
		{priced(0, 0, 0, 0, 0, 0), 3, []int{2, 1, 0}, 0, api.OK},
		{priced(1000, 1000, 1000, 1000, 1000, 1000), 3, []int{2, 1, 0}, 3000, api.OK},
		{sided, 18, []int{0, 2, 4}, 3, api.OK},
		{sided, 17, []int{1, 2, 4}, 4, api.OK},
		{sided, 0, []int{1, 2, 4}, 4, api.OK},
		// at each angle, and to both sides
		{[]api.SextantPart{part(0, 1, zero, zero, to(-8, 0)), part(1, 1, zero, zero, zero), part(2, 1, zero, zero, zero)}, 8, []int{0, 1, 2}, 3, api.OK},
		{[]api.SextantPart{part(0, 1, zero, zero, to(-8, 0)), part(1, 1, zero, zero, zero), part(2, 1, zero, zero, zero)}, 7, nil, 0, api.ErrNone},
		{[]api.SextantPart{part(0, 1, zero, zero, zero), part(1, 1, to(0, 8), zero, zero), part(2, 1, zero, zero, zero)}, 8, []int{0, 1, 2}, 3, api.OK},
		{[]api.SextantPart{part(0, 1, zero, zero, zero), part(1, 1, to(0, 8), zero, zero), part(2, 1, zero, zero, zero)}, 7, nil, 0, api.ErrNone},
		{[]api.SextantPart{part(0, 1, zero, zero), part(1, 1, zero, zero), part(2, 1, zero, to(5, 8))}, 7, nil, 0, api.ErrNone},
		{[]api.SextantPart{part(0, 1, zero, zero), part(1, 1, zero, zero), part(2, 1, zero, to(-8, -5))}, 7, nil, 0, api.ErrNone},
		// a kind is missing
		{[]api.SextantPart{part(0, 1, zero, zero), part(1, 1, zero, zero), part(1, 1, zero, zero)}, 7, nil, 0, api.ErrNone},
		{[]api.SextantPart{part(0, 1, zero, zero), part(2, 1, zero, zero), part(2, 1, zero, zero)}, 7, nil, 0, api.ErrNone},
		{[]api.SextantPart{part(1, 1, zero, zero), part(2, 1, zero, zero), part(2, 1, zero, zero)}, 7, nil, 0, api.ErrNone},
		// twelve parts, and twelve angles
		{slices.Concat(alike, alike), 3, []int{2, 1, 0}, 15, api.OK},
		{[]api.SextantPart{part(2, 1, wide...), part(0, 1, wide...), part(1, 1, wide...)}, 3000, []int{1, 2, 0}, 3, api.OK},
		{[]api.SextantPart{part(2, 1, wide...), part(0, 1, wide...), part(1, 1, wide...)}, 2999, nil, 0, api.ErrNone},
	} {
		if parts, price, e := sextant.Assemble(x.stock, x.bound); !slices.Equal(parts, x.parts) || price != x.price || e != x.e {
			t.Errorf("Assemble(%v, %d): %v, %d, %d, not %v, %d, %d", x.stock, x.bound, parts, price, e, x.parts, x.price, x.e)
		}
	}
}

// P5.5: what is no stock, and what is no bound.
func TestNoStock(t *testing.T) {
	check := func(stock []api.SextantPart, bound int) {
		t.Helper()
		if parts, price, e := sextant.Assemble(stock, bound); len(parts) != 0 || price != 0 || e != api.ErrSextantStock {
			t.Errorf("Assemble(%v, %d): %v, %d, %d", stock, bound, parts, price, e)
		}
	}
	change := func(change func(p *api.SextantPart)) {
		t.Helper()
		for i := range shopStock() {
			stock := shopStock()
			change(&stock[i])
			check(stock, 20)
		}
	}
	for _, bound := range []int{-1, 5001, math.MinInt, math.MaxInt} {
		check(shopStock(), bound)
	}
	check(nil, 20)
	check(shopStock()[1:3], 20)
	check(slices.Repeat(shopStock()[1:2], 13), 20)
	for _, kind := range []int{-1, 3, math.MinInt, math.MaxInt} {
		change(func(p *api.SextantPart) { p.Kind = kind })
	}
	for _, price := range []int{-1, 1001, math.MinInt, math.MaxInt} {
		change(func(p *api.SextantPart) { p.Price = price })
	}
	for _, s := range []api.Span{to(-1001, 0), to(0, 1001), to(1001, 1001), to(-1001, -1001), to(1, 0), to(math.MinInt, math.MaxInt), to(math.MaxInt, math.MinInt)} {
		for k := range 2 {
			change(func(p *api.SextantPart) { p.Errors[k] = s })
		}
	}
	for _, angles := range []int{0, 1, 3, 12, 13} {
		change(func(p *api.SextantPart) { p.Errors = make([]api.Span, angles) })
	}
	for _, angles := range []int{0, 1, 13} {
		none := make([]api.Span, angles)
		check([]api.SextantPart{part(0, 1, none...), part(1, 1, none...), part(2, 1, none...)}, 20)
	}
}

// P5.5
func TestAssembleAll(t *testing.T) {
	var d dice
	found, none := 0, 0
	for range 1500 {
		stock, bound := d.stock(12), d.from(4, 26)
		want, cost := slowAssemble(stock, bound)
		parts, price, e := sextant.Assemble(stock, bound)
		if !slices.Equal(parts, want) || price != cost || (e == api.OK) != (want != nil) || e != api.OK && e != api.ErrNone {
			t.Fatalf("Assemble(%v, %d): %v, %d, %d, not %v, %d", stock, bound, parts, price, e, want, cost)
		}
		if e == api.OK {
			found++
		} else {
			none++
		}
	}
	if found < 300 || none < 300 {
		t.Errorf("%d fit, %d do not", found, none)
	}
}
