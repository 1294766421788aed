package glass_test

import (
	"math"
	"reflect"
	"slices"
	"testing"

	"octant/api"
	"octant/glass"
)

// to returns a span.
func to(low, high int) api.Span { return api.Span{Low: low, High: high} }

// shopStock, shopObjective, shopWant and shopTruth are those of the document's examples.
func shopStock() api.GlassStock {
	return api.GlassStock{
		Blanks: []api.GlassBlank{
			{Index: to(50000, 50010), Colour: to(800, 800), Price: 9},
			{Index: to(60000, 60000), Colour: to(1600, 1600), Price: 12},
		},
		Tools: []api.Span{to(20, 20), to(-20, -20), to(-1, 1)},
	}
}

// made returns an objective.
func made(first, second, front, middle, back int) api.GlassObjective {
	return api.GlassObjective{First: first, Second: second, Tools: [3]int{front, middle, back}}
}

func shopObjective() api.GlassObjective { return made(0, 1, 0, 1, 2) }

func shopWant() api.GlassWant { return api.GlassWant{Power: to(700000, 900000), Colour: 2000} }

func shopTruth() api.GlassTruth {
	return api.GlassTruth{Index: []int{50000, 60000}, Colour: []int{800, 1600}, Curve: []int{20, -20, 0}}
}

// shopFringes are the readings of the document's examples: of these, the first one alone and the first two agree with some curvature.
func shopFringes() []api.GlassFringe {
	return []api.GlassFringe{
		{Plate: to(100, 100), Rings: to(5, 6)},
		{Plate: to(98, 98), Rings: to(6, 8)},
		{Plate: to(100, 103), Rings: to(3, 3), Press: -1},
	}
}

// changed returns the stock of the examples with a change.
func changed(change func(s *api.GlassStock)) api.GlassStock {
	s := shopStock()
	change(&s)
	return s
}

// farStock returns a stock with so many blanks and tools that are known as badly as can be.
func farStock(blanks, tools int) api.GlassStock {
	return api.GlassStock{
		Blanks: slices.Repeat([]api.GlassBlank{{Index: to(1, 100000), Colour: to(1, 5000), Price: 1000000}}, blanks),
		Tools:  slices.Repeat([]api.Span{to(-1000, 1000)}, tools),
	}
}

func validStocks() []api.GlassStock {
	return []api.GlassStock{
		shopStock(),
		farStock(8, 6),
		farStock(2, 1),
		{Blanks: slices.Repeat([]api.GlassBlank{{Index: to(1, 1), Colour: to(1, 1)}}, 2), Tools: []api.Span{to(-1000, -1000)}},
		{Blanks: slices.Repeat([]api.GlassBlank{{Index: to(100000, 100000), Colour: to(5000, 5000)}}, 8), Tools: []api.Span{to(1000, 1000), {}}},
	}
}

func invalidStocks() []api.GlassStock {
	list := []api.GlassStock{{}, farStock(9, 3), farStock(1, 3), farStock(0, 3), farStock(3, 7), farStock(3, 0)}
	for _, s := range []api.Span{to(0, 9), to(-1, 9), to(9, 100001), to(100001, 100001), to(10, 9), {}, to(math.MinInt, math.MaxInt), to(math.MaxInt, math.MinInt)} {
		list = append(list, changed(func(x *api.GlassStock) { x.Blanks[0].Index = s }), changed(func(x *api.GlassStock) { x.Blanks[1].Index = s }))
	}
	for _, s := range []api.Span{to(0, 9), to(-1, 9), to(9, 5001), to(5001, 5001), to(10, 9), {}, to(math.MinInt, math.MaxInt), to(math.MaxInt, math.MinInt)} {
		list = append(list, changed(func(x *api.GlassStock) { x.Blanks[0].Colour = s }), changed(func(x *api.GlassStock) { x.Blanks[1].Colour = s }))
	}
	for _, price := range []int{-1, 1000001, math.MinInt, math.MaxInt} {
		list = append(list, changed(func(x *api.GlassStock) { x.Blanks[0].Price = price }), changed(func(x *api.GlassStock) { x.Blanks[1].Price = price }))
	}
	for _, s := range []api.Span{to(-1001, 9), to(-1001, -1001), to(9, 1001), to(1001, 1001), to(1, 0), to(math.MinInt, math.MaxInt), to(math.MaxInt, math.MinInt)} {
		list = append(list, changed(func(x *api.GlassStock) { x.Tools[0] = s }), changed(func(x *api.GlassStock) { x.Tools[2] = s }))
	}
	return list
}

func invalidWants() []api.GlassWant {
	return []api.GlassWant{
		{Power: to(1, 0)},
		{Power: to(900000, 700000), Colour: 2000},
		{Power: to(-400000001, 0), Colour: 2000},
		{Power: to(0, 400000001), Colour: 2000},
		{Power: to(400000001, 400000001), Colour: 2000},
		{Power: to(-400000001, -400000001), Colour: 2000},
		{Power: to(math.MinInt, math.MaxInt), Colour: 2000},
		{Power: to(math.MaxInt, math.MinInt), Colour: 2000},
		{Power: to(700000, 900000), Colour: -1},
		{Power: to(700000, 900000), Colour: 400000001},
		{Power: to(700000, 900000), Colour: math.MinInt},
		{Power: to(700000, 900000), Colour: math.MaxInt},
	}
}

// invalidMade returns what is no objective of the shop's stock.
func invalidMade() []api.GlassObjective {
	list := []api.GlassObjective{{}, made(0, 0, 0, 1, 2), made(1, 1, 0, 1, 2)}
	for _, blank := range []int{-1, 2, 8, math.MinInt, math.MaxInt} {
		list = append(list, made(blank, 1, 0, 1, 2), made(0, blank, 0, 1, 2), made(blank, blank, 0, 1, 2))
	}
	for _, tool := range []int{-1, 3, 6, math.MinInt, math.MaxInt} {
		list = append(list, made(0, 1, tool, 1, 2), made(0, 1, 0, tool, 2), made(0, 1, 0, 1, tool))
	}
	return list
}

// P4.1
func TestCheck(t *testing.T) {
	for _, s := range validStocks() {
		if e := glass.Check(s); e != api.OK {
			t.Errorf("Check(%v): %d", s, e)
		}
	}
	for _, s := range invalidStocks() {
		if e := glass.Check(s); e != api.ErrGlass {
			t.Errorf("Check(%v): %d", s, e)
		}
	}
}

// shopInput returns an input with which each call does something.
func shopInput() input {
	return input{stock: shopStock(), want: shopWant(), objective: shopObjective(), truth: shopTruth(), fringes: shopFringes()[:2]}
}

// P4.1: the error of the stock comes first, then the one of the wish, then the one of the objective, and no result comes with them.
func TestErrorsInOrder(t *testing.T) {
	wrongWants, wrongMade := invalidWants(), invalidMade()
	for _, c := range stockCalls() {
		check := func(in input, want api.Errno) {
			t.Helper()
			if r := c.do(in); !reflect.DeepEqual(r, result{e: want}) {
				t.Errorf("%s(%v): %v, not the error %d", c.name, in, r, want)
			}
		}
		for i, s := range invalidStocks() {
			in := shopInput()
			in.stock = s
			check(in, api.ErrGlass)
			in.want, in.objective, in.truth = wrongWants[i%len(wrongWants)], wrongMade[i%len(wrongMade)], api.GlassTruth{}
			check(in, api.ErrGlass)
		}
		for i, w := range wrongWants {
			in := shopInput()
			in.want = w
			if c.want {
				check(in, api.ErrGlassWant)
				in.objective = wrongMade[i%len(wrongMade)]
				check(in, api.ErrGlassWant)
			}
		}
		for _, o := range wrongMade {
			in := shopInput()
			in.objective = o
			if c.made {
				check(in, api.ErrGlassMade)
				in.truth = api.GlassTruth{}
				check(in, api.ErrGlassMade)
			}
		}
	}
}

// P4.1: the farthest wishes that are valid, and the objectives with the last blanks and tools.
func TestFarthestValid(t *testing.T) {
	for _, w := range []api.GlassWant{{}, {Power: to(-400000000, -400000000)}, {Power: to(400000000, 400000000), Colour: 400000000}, {Power: to(-400000000, 400000000)}} {
		if _, e := glass.Most(shopStock(), w); e != api.OK {
			t.Errorf("Most(%v): %d", w, e)
		}
		if _, e := glass.Good(shopStock(), w, shopObjective()); e != api.OK {
			t.Errorf("Good(%v): %d", w, e)
		}
	}
	for _, o := range []api.GlassObjective{made(0, 7, 0, 0, 0), made(7, 0, 5, 5, 5), made(6, 7, 5, 0, 5)} {
		if _, _, e := glass.Spans(farStock(8, 6), o); e != api.OK {
			t.Errorf("Spans(%v): %d", o, e)
		}
	}
}

// P4.2
func TestSeen(t *testing.T) {
	truth := func(change func(t *api.GlassTruth)) api.GlassTruth {
		t := shopTruth()
		change(&t)
		return t
	}
	o := shopObjective()
	for _, x := range []struct {
		o             api.GlassObjective
		t             api.GlassTruth
		power, colour int
		e             api.Errno
	}{
		{o, shopTruth(), 800000, 0, api.OK},
		{made(1, 0, 2, 1, 0), shopTruth(), -800000, 0, api.OK},
		{made(1, 0, 0, 1, 2), shopTruth(), 60000*40 - 50000*20, 1600*40 - 800*20, api.OK},
		{made(0, 1, 0, 0, 1), shopTruth(), 60000 * 40, 1600 * 40, api.OK},
		{made(0, 1, 0, 1, 1), shopTruth(), 50000 * 40, 800 * 40, api.OK},
		{made(0, 1, 0, 1, 0), shopTruth(), -10000 * 40, -800 * 40, api.OK},
		{made(0, 1, 1, 1, 1), shopTruth(), 0, 0, api.OK},
		{o, truth(func(t *api.GlassTruth) { t.Index[0] = 50010 }), 800400, 0, api.OK},
		{o, truth(func(t *api.GlassTruth) { t.Curve[2] = 1 }), 740000, -1600, api.OK},
		{o, truth(func(t *api.GlassTruth) { t.Curve[2] = -1 }), 860000, 1600, api.OK},
		{o, truth(func(t *api.GlassTruth) { t.Index[0] = 49999 }), 0, 0, api.ErrGlassTruth},
		{o, truth(func(t *api.GlassTruth) { t.Index[0] = 50011 }), 0, 0, api.ErrGlassTruth},
		{o, truth(func(t *api.GlassTruth) { t.Index[1] = 60001 }), 0, 0, api.ErrGlassTruth},
		{o, truth(func(t *api.GlassTruth) { t.Colour[0] = 799 }), 0, 0, api.ErrGlassTruth},
		{o, truth(func(t *api.GlassTruth) { t.Colour[1] = 1601 }), 0, 0, api.ErrGlassTruth},
		{o, truth(func(t *api.GlassTruth) { t.Curve[0] = 21 }), 0, 0, api.ErrGlassTruth},
		{o, truth(func(t *api.GlassTruth) { t.Curve[2] = -2 }), 0, 0, api.ErrGlassTruth},
		{o, truth(func(t *api.GlassTruth) { t.Curve[2] = math.MaxInt }), 0, 0, api.ErrGlassTruth},
		// what the objective does not use is a part of the truth, too
		{made(0, 1, 0, 1, 1), truth(func(t *api.GlassTruth) { t.Curve[2] = 2 }), 0, 0, api.ErrGlassTruth},
		{o, truth(func(t *api.GlassTruth) { t.Index = t.Index[:1] }), 0, 0, api.ErrGlassTruth},
		{o, truth(func(t *api.GlassTruth) { t.Index = append(t.Index, 50000) }), 0, 0, api.ErrGlassTruth},
		{o, truth(func(t *api.GlassTruth) { t.Colour = nil }), 0, 0, api.ErrGlassTruth},
		{o, truth(func(t *api.GlassTruth) { t.Colour = append(t.Colour, 800) }), 0, 0, api.ErrGlassTruth},
		{o, truth(func(t *api.GlassTruth) { t.Curve = t.Curve[:2] }), 0, 0, api.ErrGlassTruth},
		{o, truth(func(t *api.GlassTruth) { t.Curve = append(t.Curve, 0) }), 0, 0, api.ErrGlassTruth},
		{o, api.GlassTruth{}, 0, 0, api.ErrGlassTruth},
	} {
		if power, colour, e := glass.Seen(shopStock(), x.o, x.t); power != x.power || colour != x.colour || e != x.e {
			t.Errorf("Seen(%v, %v): %d, %d, %d", x.o, x.t, power, colour, e)
		}
	}
}

// P4.2
func TestSpans(t *testing.T) {
	far := api.GlassStock{
		Blanks: slices.Repeat([]api.GlassBlank{{Index: to(1, 100000), Colour: to(1, 5000)}}, 2),
		Tools:  []api.Span{to(1000, 1000), to(-1000, -1000), to(-1000, 1000)},
	}
	for _, x := range []struct {
		s             api.GlassStock
		o             api.GlassObjective
		power, colour api.Span
	}{
		{shopStock(), shopObjective(), to(740000, 860400), to(-1600, 1600)},
		{shopStock(), made(1, 0, 2, 1, 0), to(-860400, -740000), to(-1600, 1600)},
		{shopStock(), made(0, 1, 0, 1, 1), to(2000000, 2000400), to(32000, 32000)},
		{shopStock(), made(0, 1, 0, 1, 0), to(-400000, -399600), to(-32000, -32000)},
		// a tool has one curvature, also if it is used for two surfaces, or for all
		{shopStock(), made(0, 1, 2, 2, 2), to(0, 0), to(0, 0)},
		{shopStock(), made(0, 1, 2, 2, 0), to(-60000*21, -60000*19), to(-1600*21, -1600*19)},
		{shopStock(), made(0, 1, 0, 2, 2), to(50000*19, 50010*21), to(800*19, 800*21)},
		{shopStock(), made(0, 1, 2, 0, 2), to(9990*19, 10000*21), to(800*19, 800*21)},
		// the greatest powers and colours of all
		{far, made(0, 1, 0, 1, 0), to(-99999*2000, 99999*2000), to(-4999*2000, 4999*2000)},
		{far, made(0, 1, 0, 1, 1), to(2000, 200000000), to(2000, 10000000)},
		{far, made(0, 1, 2, 2, 1), to(0, 200000000), to(0, 10000000)},
		{far, made(0, 1, 0, 2, 1), to(2000, 200000000), to(2000, 10000000)},
		// two tools that are alike are two
		{farStock(8, 6), made(6, 7, 4, 5, 4), to(-2000*99999, 2000*99999), to(-2000*4999, 2000*4999)},
		{farStock(8, 6), made(6, 7, 3, 4, 5), to(-200000000, 200000000), to(-10000000, 10000000)},
	} {
		power, colour, e := glass.Spans(x.s, x.o)
		if power != x.power || colour != x.colour || e != api.OK {
			t.Errorf("Spans(%v, %v): %v, %v, %d", x.s, x.o, power, colour, e)
		}
	}
}

// want returns a wish.
func want(low, high, colour int) api.GlassWant {
	return api.GlassWant{Power: to(low, high), Colour: colour}
}

// P4.3
func TestGood(t *testing.T) {
	for _, x := range []struct {
		w    api.GlassWant
		want bool
	}{
		{shopWant(), true},
		{want(740000, 860400, 1600), true},
		{want(740001, 860400, 1600), false},
		{want(740000, 860399, 1600), false},
		{want(740000, 860400, 1599), false},
		{want(-400000000, 400000000, 1600), true},
		{want(-400000000, 400000000, 0), false},
		{want(800000, 800000, 400000000), false},
		{want(-860400, -740000, 1600), false},
	} {
		if is, e := glass.Good(shopStock(), x.w, shopObjective()); is != x.want || e != api.OK {
			t.Errorf("Good(%v): %v, %d", x.w, is, e)
		}
	}
	turned := made(1, 0, 2, 1, 0)
	for _, x := range []struct {
		o    api.GlassObjective
		w    api.GlassWant
		want bool
	}{
		{turned, want(-860400, -740000, 1600), true},
		{turned, want(-860399, -740000, 1600), false},
		{turned, want(-860400, -740001, 1600), false},
		{turned, shopWant(), false},
		{made(0, 1, 0, 0, 0), want(0, 0, 0), true},
		{made(0, 1, 0, 0, 0), want(1, 1, 0), false},
		{made(0, 1, 0, 0, 0), want(-1, -1, 0), false},
		// a colour below 0 is as bad as one above 0
		{made(0, 1, 0, 1, 0), want(-400000, -399600, 32000), true},
		{made(0, 1, 0, 1, 0), want(-400000, -399600, 31999), false},
	} {
		if is, e := glass.Good(shopStock(), x.w, x.o); is != x.want || e != api.OK {
			t.Errorf("Good(%v, %v): %v, %d", x.w, x.o, is, e)
		}
	}
}

// sure returns a stock of blanks and tools that are known without doubt.
func sure(blanks [][3]int, tools ...int) api.GlassStock {
	var s api.GlassStock
	for _, b := range blanks {
		s.Blanks = append(s.Blanks, api.GlassBlank{Index: to(b[0], b[0]), Colour: to(b[1], b[1]), Price: b[2]})
	}
	for _, tool := range tools {
		s.Tools = append(s.Tools, to(tool, tool))
	}
	return s
}

// P4.3
func TestBest(t *testing.T) {
	alike := [3]int{100, 10, 5}
	for _, x := range []struct {
		s     api.GlassStock
		w     api.GlassWant
		o     api.GlassObjective
		worst int
		e     api.Errno
	}{
		{shopStock(), shopWant(), shopObjective(), 1600, api.OK},
		{shopStock(), want(700000, 900000, 1600), shopObjective(), 1600, api.OK},
		{shopStock(), want(700000, 900000, 1599), api.GlassObjective{}, 0, api.ErrNone},
		{shopStock(), want(-900000, -700000, 2000), made(0, 1, 1, 0, 2), 1600, api.OK},
		{shopStock(), want(0, 0, 0), made(0, 1, 0, 0, 0), 0, api.OK},
		{farStock(8, 6), want(-400000000, 400000000, 400000000), made(0, 1, 0, 0, 0), 0, api.OK},
		{farStock(8, 6), want(1, 400000000, 400000000), api.GlassObjective{}, 0, api.ErrNone},
		// the powers 100 and 100, of which the one of less colour is the dearer one
		{sure([][3]int{{100, 20, 1}, {300, 90, 2}, {100, 10, 900}}, 1, 0), want(100, 100, 50), made(0, 2, 0, 0, 1), 10, api.OK},
		// of the same colour, the one with the least price of both blanks
		{sure([][3]int{alike, {701, 3, 9}, {850, 4, 2}, {990, 5, 7}}, 1, 0), want(100, 100, 50), made(0, 2, 0, 1, 1), 10, api.OK},
		{sure([][3]int{{990, 5, 7}, {701, 3, 9}, {850, 4, 2}, alike}, 1, 0), want(100, 100, 50), made(2, 3, 0, 0, 1), 10, api.OK},
		// of the same price, the first one: by its blanks, then by its tools
		{sure([][3]int{{900, 5, 7}, alike, alike, alike}, 1, 0), want(100, 100, 50), made(1, 2, 0, 0, 1), 10, api.OK},
		{sure([][3]int{{900, 5, 5}, alike, alike, alike}, 1, 0), want(100, 100, 50), made(0, 1, 0, 0, 1), 10, api.OK},
		{sure([][3]int{alike, alike}, 1, 1, 0, 0), want(100, 100, 50), made(0, 1, 0, 0, 2), 10, api.OK},
		{sure([][3]int{alike, alike}, 0, 1, 1, 0), want(100, 100, 50), made(0, 1, 1, 0, 0), 10, api.OK},
		{sure([][3]int{{100, 10, 0}, {50, 5, 0}}, 1, 0, -3), want(100, 100, 50), made(0, 1, 0, 1, 1), 10, api.OK}, // not the tools 1 0 2
		{sure([][3]int{alike, {100, 10, 5}, {100, 10, 4}}, 0, 1), want(100, 100, 50), made(0, 2, 1, 0, 0), 10, api.OK},
		{sure([][3]int{{100, 12, 0}, {200, 15, 0}, {300, 21, 9}}, 1, 0), want(100, 100, 50), made(0, 1, 1, 0, 1), 3, api.OK},
		// the colour -5 is better than 6, but not good for 4
		{sure([][3]int{{300, 10, 0}, {200, 15, 0}, {300, 21, 9}}, 1, 0), want(100, 100, 50), made(0, 1, 0, 1, 0), 5, api.OK},
		{sure([][3]int{{300, 10, 0}, {200, 15, 0}, {300, 21, 9}}, 1, 0), want(100, 100, 4), api.GlassObjective{}, 0, api.ErrNone},
	} {
		if o, worst, e := glass.Best(x.s, x.w); o != x.o || worst != x.worst || e != x.e {
			t.Errorf("Best(%v, %v): %v, %d, %d", x.s, x.w, o, worst, e)
		}
	}
}

// checkMost checks objectives at once, all of which must be good.
func checkMost(t *testing.T, s api.GlassStock, w api.GlassWant, count int) {
	t.Helper()
	l, e := glass.Most(s, w)
	if len(l) != count || e != api.OK {
		t.Fatalf("Most(%v, %v): %v, %d, not %d of them", s, w, l, e, count)
	}
	used := map[int]bool{}
	for _, o := range l {
		if good, e := glass.Good(s, w, o); !good || e != api.OK || used[o.First] || used[o.Second] {
			t.Fatalf("Most(%v, %v): %v; %v, %d", s, w, l, good, e)
		}
		used[o.First], used[o.Second] = true, true
	}
}

// P4.4
func TestMost(t *testing.T) {
	// rows returns blanks of these indices; two are good if they differ by 10 to so much
	rows := func(list ...int) api.GlassStock {
		var blanks [][3]int
		for _, index := range list {
			blanks = append(blanks, [3]int{index, 1, 0})
		}
		return sure(blanks, 0, 1)
	}
	for _, x := range []struct {
		s     api.GlassStock
		w     api.GlassWant
		count int
	}{
		{shopStock(), shopWant(), 1},
		{shopStock(), want(700000, 900000, 1600), 1},
		{shopStock(), want(700000, 900000, 1599), 0},
		{farStock(8, 6), want(-400000000, 400000000, 400000000), 4},
		{farStock(7, 6), want(-400000000, 400000000, 400000000), 3},
		{farStock(8, 6), want(1, 400000000, 400000000), 0},
		{farStock(2, 1), want(0, 0, 0), 1},
		{rows(500, 510), want(10, 10, 0), 1},
		{rows(500, 511), want(10, 10, 0), 0},
		// with the first two blanks together the others would be left alone
		{rows(510, 520, 500, 530), want(10, 10, 0), 2},
		{rows(510, 520, 500, 531), want(10, 10, 0), 1},
		{rows(530, 540, 510, 520, 550, 560, 500, 570), want(10, 10, 0), 4},
		{rows(530, 540, 510, 520, 550, 560, 500, 571), want(10, 10, 0), 3},
		// three that go with each other make one
		{rows(500, 510, 520), want(10, 20, 0), 1},
		// all others go with one alone
		{rows(500, 510, 490, 510, 490, 510, 490, 510), want(10, 10, 0), 1},
		// two rounds of three, which one pair connects
		{rows(500, 510, 520, 540, 550, 560), want(10, 20, 0), 3},
	} {
		checkMost(t, x.s, x.w, x.count)
	}
}

// P4.2 to P4.4
func TestStocksAll(t *testing.T) {
	var d dice
	good, none, several, fewer := 0, 0, 0, 0
	for range 150 {
		s := d.small()
		all := slowObjectives(s)
		for range 12 {
			o := d.objective(s)
			power, colour, e := glass.Spans(s, o)
			if p, c := slowSpans(s, o); p != power || c != colour || e != api.OK {
				t.Fatalf("Spans(%v, %v): %v, %v, %d, not %v, %v", s, o, power, colour, e, p, c)
			}
		}
		w := d.want(s, all[d.from(0, len(all)-1)], 20)
		for range 12 {
			o := d.objective(s)
			is, e := glass.Good(s, w, o)
			if is != slowGood(s, w, o) || e != api.OK {
				t.Fatalf("Good(%v, %v, %v): %v, %d", s, w, o, is, e)
			}
			if is {
				good++
			}
		}
		best, some := slowBest(s, w)
		o, worst, e := glass.Best(s, w)
		if !some {
			none++
			if o != (api.GlassObjective{}) || worst != 0 || e != api.ErrNone {
				t.Fatalf("Best(%v, %v): %v, %d, %d", s, w, o, worst, e)
			}
		} else if o != best || worst != slowRank(s, best)[0] || e != api.OK {
			t.Fatalf("Best(%v, %v): %v, %d, %d, not %v", s, w, o, worst, e, best)
		}
		checkMost(t, s, w, slowMost(slowPairs(s, w)))
	}
	for range 600 {
		s, w := d.graph()
		pairs := slowPairs(s, w)
		most := slowMost(pairs)
		checkMost(t, s, w, most)
		if several++; firstMost(pairs) < most {
			fewer++
		}
	}
	if good < 100 || none < 10 || none > 140 || fewer < 30 {
		t.Errorf("%d good ones, %d stocks without one; %d of %d not by the first ones", good, none, fewer, several)
	}
}

// P4.5
func TestSurface(t *testing.T) {
	one := func(plate, rings api.Span, press int) []api.GlassFringe {
		return []api.GlassFringe{{Plate: plate, Rings: rings, Press: press}}
	}
	f := shopFringes()
	for _, x := range []struct {
		l    []api.GlassFringe
		want []api.Span
		e    api.Errno
	}{
		{f[:1], []api.Span{to(94, 95), to(105, 106)}, api.OK},
		{f[:2], []api.Span{to(105, 106)}, api.OK},
		{f[2:], []api.Span{to(97, 100)}, api.OK},
		{f[1:], nil, api.ErrNone},
		{[]api.GlassFringe{f[0], f[2]}, nil, api.ErrNone},
		{f, nil, api.ErrNone},
		{one(to(100, 100), to(5, 6), 1), []api.Span{to(105, 106)}, api.OK},
		{one(to(100, 100), to(5, 6), -1), []api.Span{to(94, 95)}, api.OK},
		{one(to(100, 100), to(0, 0), 0), []api.Span{to(100, 100)}, api.OK},
		// pressed either way it may be curved as the plate is
		{one(to(100, 100), to(0, 0), 1), []api.Span{to(100, 100)}, api.OK},
		{one(to(100, 100), to(0, 0), -1), []api.Span{to(100, 100)}, api.OK},
		{one(to(100, 100), to(0, 3), 1), []api.Span{to(100, 103)}, api.OK},
		{one(to(100, 100), to(0, 3), -1), []api.Span{to(97, 100)}, api.OK},
		{one(to(100, 100), to(0, 3), 0), []api.Span{to(97, 103)}, api.OK},
		{one(to(100, 110), to(2, 3), 1), []api.Span{to(102, 113)}, api.OK},
		{one(to(100, 110), to(2, 3), -1), []api.Span{to(97, 108)}, api.OK},
		// what is below and what is above meet, or leave a gap of one, or of none
		{one(to(100, 104), to(2, 2), 0), []api.Span{to(98, 106)}, api.OK},
		{one(to(100, 103), to(2, 2), 0), []api.Span{to(98, 105)}, api.OK},
		{one(to(100, 102), to(2, 2), 0), []api.Span{to(98, 100), to(102, 104)}, api.OK},
		{one(to(100, 100), to(1, 1), 0), []api.Span{to(99, 99), to(101, 101)}, api.OK},
		{one(to(100, 101), to(1, 1), 0), []api.Span{to(99, 102)}, api.OK},
		{one(to(-100, -100), to(5, 6), 0), []api.Span{to(-106, -105), to(-95, -94)}, api.OK},
		{one(to(0, 0), to(1, 2), 0), []api.Span{to(-2, -1), to(1, 2)}, api.OK},
		// the farthest curvatures of all
		{one(to(-1000, 1000), to(0, 1000), 0), []api.Span{to(-2000, 2000)}, api.OK},
		{one(to(1000, 1000), to(1000, 1000), 0), []api.Span{to(0, 0), to(2000, 2000)}, api.OK},
		{one(to(-1000, -1000), to(1000, 1000), 0), []api.Span{to(-2000, -2000), to(0, 0)}, api.OK},
		{one(to(1000, 1000), to(1000, 1000), 1), []api.Span{to(2000, 2000)}, api.OK},
		{one(to(-1000, -1000), to(1000, 1000), -1), []api.Span{to(-2000, -2000)}, api.OK},
		{slices.Repeat(f[:1], 12), []api.Span{to(94, 95), to(105, 106)}, api.OK},
		// each reading has a curvature of its plate for itself
		{[]api.GlassFringe{{Plate: to(100, 110), Rings: to(0, 0)}, {Plate: to(100, 110), Rings: to(7, 7), Press: 1}}, []api.Span{to(107, 110)}, api.OK},
		// three spans, and four
		{[]api.GlassFringe{{Plate: to(100, 100), Rings: to(10, 20)}, {Plate: to(115, 115), Rings: to(3, 40)}}, []api.Span{to(80, 90), to(110, 112), to(118, 120)}, api.OK},
		{[]api.GlassFringe{{Plate: to(100, 100), Rings: to(10, 20)}, {Plate: to(115, 115), Rings: to(1, 40)}, {Plate: to(85, 85), Rings: to(1, 40)}}, []api.Span{to(80, 84), to(86, 90), to(110, 114), to(116, 120)}, api.OK},
	} {
		if l, e := glass.Surface(x.l); !slices.Equal(l, x.want) || e != x.e {
			t.Errorf("Surface(%v): %v, %d", x.l, l, e)
		}
	}
}

// P4.5: readings that are none.
func TestNoFringes(t *testing.T) {
	wrong := [][]api.GlassFringe{nil, {}, slices.Repeat(shopFringes()[:1], 13)}
	add := func(f api.GlassFringe) {
		wrong = append(wrong, []api.GlassFringe{f}, append(shopFringes()[:1:1], f), append(shopFringes(), f), append([]api.GlassFringe{f}, shopFringes()...))
	}
	for _, s := range []api.Span{to(-1001, 9), to(9, 1001), to(1001, 1001), to(-1001, -1001), to(10, 9), to(math.MinInt, math.MaxInt), to(math.MaxInt, math.MinInt)} {
		add(api.GlassFringe{Plate: s, Rings: to(5, 6)})
	}
	for _, s := range []api.Span{to(-1, 9), to(-1, -1), to(9, 1001), to(1001, 1001), to(6, 5), to(math.MinInt, math.MaxInt), to(math.MaxInt, math.MinInt)} {
		add(api.GlassFringe{Plate: to(100, 100), Rings: s})
	}
	for _, press := range []int{-2, 2, 100, math.MinInt, math.MaxInt} {
		add(api.GlassFringe{Plate: to(100, 100), Rings: to(5, 6), Press: press})
	}
	for _, l := range wrong {
		if spans, e := glass.Surface(l); spans != nil || e != api.ErrGlassFringe {
			t.Errorf("Surface(%v): %v, %d", l, spans, e)
		}
	}
}

// P4.5
func TestSurfaceAll(t *testing.T) {
	var d dice
	var counts [6]int
	for range 8000 {
		curve := d.from(-900, 900)
		var l []api.GlassFringe
		for range d.from(1, 3) {
			l = append(l, d.fringe(curve+d.from(-1, 1), d.from(0, 3), d.from(0, 9), d.from(0, 60)))
		}
		want := slowSurface(l)
		got, e := glass.Surface(l)
		var all []int
		for i, s := range got {
			if s.Low > s.High || i > 0 && s.Low <= got[i-1].High+1 {
				t.Fatalf("Surface(%v): %v are not the fewest spans", l, got)
			}
			for x := s.Low; x <= s.High; x++ {
				all = append(all, x)
			}
		}
		if !slices.Equal(all, want) || (e == api.OK) != (want != nil) || e != api.OK && e != api.ErrNone {
			t.Fatalf("Surface(%v): %v, %d, not %v", l, got, e, want)
		}
		counts[min(len(got), 5)]++
	}
	if counts[0] < 20 || counts[1] < 100 || counts[2] < 100 || counts[3] < 20 {
		t.Errorf("so many had 0, 1, 2 .. spans: %v", counts)
	}
}
