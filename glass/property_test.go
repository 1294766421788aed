package glass_test

import (
	"math"
	"reflect"
	"slices"
	"testing"

	"octant/api"
	"octant/glass"
)

// roomy returns a list with room behind it, so that an append to it would show.
func roomy[T any](l []T) []T {
	big := make([]T, len(l), len(l)+4)
	copy(big, l)
	return big
}

// roomyInput returns the input of the shop, whose lists have room behind them.
func roomyInput() input {
	in := shopInput()
	in.stock.Blanks, in.stock.Tools = roomy(in.stock.Blanks), roomy(in.stock.Tools)
	in.truth.Index, in.truth.Colour, in.truth.Curve = roomy(in.truth.Index), roomy(in.truth.Colour), roomy(in.truth.Curve)
	in.fringes = roomy(in.fringes)
	return in
}

// behind returns what lies behind the lists of an input.
func behind(in input) []any {
	return []any{
		in.stock.Blanks[:cap(in.stock.Blanks)], in.stock.Tools[:cap(in.stock.Tools)],
		in.truth.Index[:cap(in.truth.Index)], in.truth.Colour[:cap(in.truth.Colour)], in.truth.Curve[:cap(in.truth.Curve)],
		in.fringes[:cap(in.fringes)],
	}
}

// P4.6: no call changes an argument, nor what lies behind it.
func TestArgumentsAreRead(t *testing.T) {
	for _, c := range allCalls() {
		in, want := roomyInput(), roomyInput()
		if r := c.do(in); r.e != api.OK {
			t.Errorf("%s: %v", c.name, r)
		}
		if !reflect.DeepEqual(behind(in), behind(want)) {
			t.Errorf("%s changes its arguments: %v", c.name, in)
		}
	}
}

// P4.6: results share no memory with arguments, nor with what another call returns.
func TestResultsAreNew(t *testing.T) {
	for _, c := range allCalls() {
		in := roomyInput()
		r, want := c.do(in), c.do(roomyInput())
		for i := range in.stock.Blanks {
			in.stock.Blanks[i] = api.GlassBlank{Price: -77}
			in.truth.Index[i], in.truth.Colour[i] = -77, -77
		}
		for i := range in.stock.Tools {
			in.stock.Tools[i], in.truth.Curve[i] = to(-77, -77), -77
		}
		for i := range in.fringes {
			in.fringes[i] = api.GlassFringe{Press: -77}
		}
		if !reflect.DeepEqual(r, want) {
			t.Errorf("%s: its result changes with its arguments: %v, not %v", c.name, r, want)
		}
		for i := range r.list {
			r.list[i] = api.GlassObjective{First: -77}
		}
		for i := range r.spans {
			r.spans[i] = to(-77, -77)
		}
		if again := c.do(roomyInput()); !reflect.DeepEqual(again, want) {
			t.Errorf("%s: another result after a change of the first one: %v, not %v", c.name, again, want)
		}
	}
}

// anyInput returns an input of numbers that may be valid or not.
func anyInput(d *dice, stocks []api.GlassStock) input {
	numbers := []int{math.MinInt, -1000001, -1001, -8, -1, 0, 1, 2, 3, 7, 8, 20, 1000, 5000, 100000, 400000000, math.MaxInt}
	number := func() int { return numbers[d.from(0, len(numbers)-1)] }
	span := func() api.Span { return to(number(), number()) }
	list := func() (l []int) {
		for range d.from(0, 4) {
			l = append(l, number())
		}
		return l
	}
	in := shopInput()
	switch d.from(0, 3) {
	case 0:
		in.stock = stocks[d.from(0, len(stocks)-1)]
	case 1:
		in.stock.Blanks = append(in.stock.Blanks, api.GlassBlank{Index: span(), Colour: span(), Price: number()})[d.from(0, 3):]
		in.stock.Tools = append(in.stock.Tools, span())[d.from(0, 3):]
	}
	if d.from(0, 1) == 0 {
		in.want = api.GlassWant{Power: span(), Colour: number()}
	}
	if d.from(0, 1) == 0 {
		in.objective = made(number(), number(), number(), number(), number())
	}
	if d.from(0, 1) == 0 {
		in.truth = api.GlassTruth{Index: list(), Colour: list(), Curve: list()}
	}
	in.fringes = append(in.fringes, api.GlassFringe{Plate: span(), Rings: span(), Press: number()})[d.from(0, 3):]
	return in
}

// P1: no call panics, and no result comes with an error.
func TestAnyArguments(t *testing.T) {
	var d dice
	stocks := append(validStocks(), invalidStocks()...)
	for range 3000 {
		in := anyInput(&d, stocks)
		for _, c := range allCalls() {
			if r := c.do(in); r.e != api.OK && !reflect.DeepEqual(r, result{e: r.e}) {
				t.Fatalf("%s with an error: %v", c.name, r)
			}
		}
	}
}

// P2: a call has the same result when it comes again, behind others; a nil list is as an empty one (R3).
func TestSameAgain(t *testing.T) {
	for _, c := range allCalls() {
		in := shopInput()
		in.stock, in.want = farStock(8, 3), api.GlassWant{Power: to(-400000000, 400000000), Colour: 400000000}
		first := c.do(in)
		for _, other := range allCalls() {
			other.do(shopInput())
		}
		if again := c.do(in); !reflect.DeepEqual(first, again) {
			t.Errorf("%s: %v, then %v", c.name, first, again)
		}
		for _, blanks := range [][]api.GlassBlank{nil, shopStock().Blanks} {
			none, empty := shopInput(), shopInput()
			none.stock, none.truth, none.fringes = api.GlassStock{Blanks: blanks}, api.GlassTruth{}, nil
			empty.stock = api.GlassStock{Blanks: append([]api.GlassBlank{}, blanks...), Tools: []api.Span{}}
			empty.truth = api.GlassTruth{Index: []int{}, Colour: []int{}, Curve: []int{}}
			empty.fringes = []api.GlassFringe{}
			if a, b := c.do(none), c.do(empty); !reflect.DeepEqual(a, b) || a.e == api.OK {
				t.Errorf("%s: %v with nil lists, %v with empty ones", c.name, a, b)
			}
		}
	}
}

func lies(x int, s api.Span) bool { return s.Low <= x && x <= s.High }

// P4.7: the power and the colour lie in their spans, in each truth.
func TestGlass(t *testing.T) {
	var d dice
	for range 1000 {
		s := d.large()
		o := d.objective(s)
		power, colour, e := glass.Spans(s, o)
		for range 40 {
			truth := d.truth(s)
			p, c, f := glass.Seen(s, o, truth)
			if e != api.OK || f != api.OK || !lies(p, power) || !lies(c, colour) {
				t.Fatalf("Spans(%v, %v): %v, %v, %d; but seen with %v: %d, %d, %d", s, o, power, colour, e, truth, p, c, f)
			}
		}
	}
}

// cornerTruth returns a truth in which all is at an end of its span.
func cornerTruth(s api.GlassStock, set int) api.GlassTruth {
	end := func(x api.Span) int {
		upper := set&1 == 1
		if set >>= 1; upper {
			return x.High
		}
		return x.Low
	}
	var t api.GlassTruth
	for _, b := range s.Blanks {
		index, colour := end(b.Index), end(b.Colour)
		t.Index, t.Colour = append(t.Index, index), append(t.Colour, colour)
	}
	for _, tool := range s.Tools {
		t.Curve = append(t.Curve, end(tool))
	}
	return t
}

// P4.7: each end of both spans is so in some truth, in which all are at an end of theirs.
func TestEnds(t *testing.T) {
	var d dice
	sameTool := 0
	for range 300 {
		s := d.large()
		s.Blanks, s.Tools = s.Blanks[:2], s.Tools[:min(3, len(s.Tools))]
		o := d.objective(s)
		power, colour, e := glass.Spans(s, o)
		var powers, colours []int
		for set := range 1 << (4 + len(s.Tools)) {
			p, c, f := glass.Seen(s, o, cornerTruth(s, set))
			if f != api.OK {
				t.Fatalf("Seen(%v, %v): %d", s, o, f)
			}
			powers, colours = append(powers, p), append(colours, c)
		}
		if e != api.OK || power != to(slices.Min(powers), slices.Max(powers)) || colour != to(slices.Min(colours), slices.Max(colours)) {
			t.Fatalf("Spans(%v, %v): %v, %v, %d, not those of %v, %v", s, o, power, colour, e, powers, colours)
		}
		if o.Tools[0] == o.Tools[2] {
			sameTool++
		}
	}
	if sameTool < 50 {
		t.Errorf("only %d with one tool twice", sameTool)
	}
}

// wide returns a wish that some objectives of a stock are good for, as a rule.
func (d *dice) wide(s api.GlassStock) api.GlassWant {
	power, colour, _ := glass.Spans(s, d.objective(s))
	return api.GlassWant{
		Power:  to(max(-api.GlassPower, power.Low-d.from(0, 20000000)), min(api.GlassPower, power.High+d.from(0, 20000000))),
		Colour: slowWorst(colour) + d.from(0, 100000),
	}
}

// P4.8: the best objective meets power and colour in each truth; no other one that is good has a lesser worst colour.
func TestObjective(t *testing.T) {
	var d dice
	found := 0
	for range 40 {
		s := d.large()
		s.Tools = s.Tools[:min(4, len(s.Tools))]
		w := d.wide(s)
		best, worst, e := glass.Best(s, w)
		if e != api.OK {
			t.Fatalf("Best(%v, %v): %d", s, w, e) // there is the one of which the wish was made
		}
		for range 100 {
			power, colour, e := glass.Seen(s, best, d.truth(s))
			if e != api.OK || !lies(power, w.Power) || !lies(colour, to(-w.Colour, w.Colour)) || !lies(colour, to(-worst, worst)) {
				t.Fatalf("Best(%v, %v): %v, %d; but seen %d, %d, %d", s, w, best, worst, power, colour, e)
			}
		}
		_, colour, _ := glass.Spans(s, best)
		if good, e := glass.Good(s, w, best); !good || e != api.OK || slowWorst(colour) != worst {
			t.Fatalf("Best(%v, %v): %v, %d; good %v, %d; %v", s, w, best, worst, good, e, colour)
		}
		for _, o := range slowObjectives(s) {
			if good, _ := glass.Good(s, w, o); good && o != best {
				found++
				if _, colour, _ := glass.Spans(s, o); slowWorst(colour) < worst {
					t.Fatalf("Best(%v, %v): %v, %d; but %v", s, w, best, worst, o)
				}
			}
		}
	}
	if found < 100 {
		t.Errorf("only %d others that are good", found)
	}
}

// minus returns the span of all numbers of one with the other sign.
func minus(s api.Span) api.Span { return to(-s.High, -s.Low) }

// P4.9: an objective that is turned round has the same powers and colours with the other sign; one with the same tool thrice has none.
func TestTurned(t *testing.T) {
	var d dice
	for range 1000 {
		s := d.large()
		o := d.objective(s)
		turned := made(o.Second, o.First, o.Tools[2], o.Tools[1], o.Tools[0])
		power, colour, e := glass.Spans(s, o)
		p, c, f := glass.Spans(s, turned)
		if e != api.OK || f != api.OK || p != minus(power) || c != minus(colour) {
			t.Fatalf("Spans(%v, %v): %v, %v; turned round %v, %v", s, o, power, colour, p, c)
		}
		truth := d.truth(s)
		a, b, e := glass.Seen(s, o, truth)
		x, y, f := glass.Seen(s, turned, truth)
		if e != api.OK || f != api.OK || x != -a || y != -b {
			t.Fatalf("Seen(%v, %v, %v): %d, %d; turned round %d, %d", s, o, truth, a, b, x, y)
		}
		o.Tools = [3]int{o.Tools[0], o.Tools[0], o.Tools[0]}
		if power, colour, e := glass.Spans(s, o); power != to(0, 0) || colour != to(0, 0) || e != api.OK {
			t.Fatalf("Spans(%v, %v): %v, %v, %d", s, o, power, colour, e)
		}
		if a, b, e := glass.Seen(s, o, truth); a != 0 || b != 0 || e != api.OK {
			t.Fatalf("Seen(%v, %v, %v): %d, %d, %d", s, o, truth, a, b, e)
		}
	}
}

// within returns a span of numbers of a span.
func (d *dice) within(s api.Span) api.Span {
	low := d.in(s)
	return to(low, d.from(low, s.High))
}

// known returns a stock that is known better.
func (d *dice) known(s api.GlassStock) api.GlassStock {
	var better api.GlassStock
	for _, b := range s.Blanks {
		better.Blanks = append(better.Blanks, api.GlassBlank{Index: d.within(b.Index), Colour: d.within(b.Colour), Price: b.Price})
	}
	for _, tool := range s.Tools {
		better.Tools = append(better.Tools, d.within(tool))
	}
	return better
}

// P4.10: from a stock that is known better, with more blanks, or for a wider wish, the best objective is not worse, and not fewer can be made at once.
func TestMoreIsNotWorse(t *testing.T) {
	var d dice
	better, more := 0, 0
	for range 300 {
		s := d.small()
		w := d.want(s, d.objective(s), 6)
		richer := api.GlassStock{Blanks: append(slices.Clone(s.Blanks), d.small().Blanks...), Tools: s.Tools}
		wider := api.GlassWant{Power: to(w.Power.Low-d.from(0, 9), w.Power.High+d.from(0, 9)), Colour: w.Colour + d.from(0, 9)}
		_, worst, e := glass.Best(s, w)
		l, _ := glass.Most(s, w)
		for _, x := range []struct {
			s api.GlassStock
			w api.GlassWant
		}{{d.known(s), w}, {richer, w}, {s, wider}, {d.known(richer), wider}} {
			_, other, f := glass.Best(x.s, x.w)
			if e == api.OK && (f != api.OK || other > worst) {
				t.Fatalf("Best(%v, %v): %d, but %d, %d with %v, %v", s, w, worst, other, f, x.s, x.w)
			}
			at, g := glass.Most(x.s, x.w)
			if len(at) < len(l) || g != api.OK {
				t.Fatalf("Most(%v, %v): %v, but %v, %d with %v, %v", s, w, l, at, g, x.s, x.w)
			}
			if f == api.OK && (e != api.OK || other < worst) {
				better++
			}
			if len(at) > len(l) {
				more++
			}
		}
	}
	if better < 100 || more < 100 {
		t.Errorf("%d better ones, %d with more at once", better, more)
	}
}

// P4.11: the true curvature is in one of the spans, whatever the plates truly are; with one reading more none is added.
func TestFringes(t *testing.T) {
	var d dice
	has := func(l []api.Span, curve int) bool {
		return slices.ContainsFunc(l, func(s api.Span) bool { return lies(curve, s) })
	}
	less := 0
	for range 1000 {
		curve := d.from(-900, 900)
		var l []api.GlassFringe
		var before []api.Span
		for i := range d.from(1, api.GlassReadings) {
			l = append(l, d.fringe(curve, d.from(0, 3), d.from(0, 9), d.from(0, 60)))
			after, e := glass.Surface(l)
			if e != api.OK || !has(after, curve) {
				t.Fatalf("Surface(%v): %v, %d, without %d", l, after, e, curve)
			}
			for x := -2000; x <= 2000 && i > 0; x++ {
				if has(after, x) && !has(before, x) {
					t.Fatalf("Surface(%v): %v, with %d, which is not in %v", l, after, x, before)
				}
			}
			if i > 0 && !slices.Equal(before, after) {
				less++
			}
			before = after
		}
	}
	if less < 500 {
		t.Errorf("only %d readings that told anything", less)
	}
}

// P1: each call ends soon, with as many blanks, tools and readings as there can be.
func TestLargest(t *testing.T) {
	s := farStock(api.GlassBlanks, api.GlassTools)
	w := api.GlassWant{Power: to(-api.GlassPower, api.GlassPower), Colour: api.GlassPower}
	if o, worst, e := glass.Best(s, w); o != made(0, 1, 0, 0, 0) || worst != 0 || e != api.OK {
		t.Errorf("Best: %v, %d, %d", o, worst, e)
	}
	checkMost(t, s, w, api.GlassBlanks/2)
	l := slices.Repeat([]api.GlassFringe{{Plate: to(-1000, 1000), Rings: to(0, 1000)}}, api.GlassReadings)
	if spans, e := glass.Surface(l); !slices.Equal(spans, []api.Span{to(-2000, 2000)}) || e != api.OK {
		t.Errorf("Surface: %v, %d", spans, e)
	}
}
