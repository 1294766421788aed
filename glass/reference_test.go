package glass_test

import (
	"slices"

	"octant/api"
	"octant/glass"
)

// The functions of this file say slowly what the document says, to check the package against.

// dice is a row of numbers that look as if by chance, the same ones each time.
type dice uint64

// from returns a number from low to high.
func (d *dice) from(low, high int) int {
	*d = *d*6364136223846793005 + 1442695040888963407
	return low + int(uint64(*d)>>33)%(high-low+1)
}

// span returns a span from low to high that is not wider than some number.
func (d *dice) span(low, high, wide int) api.Span {
	a := d.from(low, high)
	return api.Span{Low: a, High: min(a+d.from(0, wide), high)}
}

// in returns a number that lies in a span.
func (d *dice) in(s api.Span) int { return d.from(s.Low, s.High) }

// small returns a valid stock, with so few truths that all of them can be tried.
func (d *dice) small() api.GlassStock {
	var s api.GlassStock
	for range d.from(2, 4) {
		s.Blanks = append(s.Blanks, api.GlassBlank{Index: d.span(1, 12, 2), Colour: d.span(1, 8, 2), Price: d.from(0, 3)})
	}
	for range d.from(1, 3) {
		s.Tools = append(s.Tools, d.span(-6, 6, 2))
	}
	return s
}

// large returns a valid stock of any size.
func (d *dice) large() api.GlassStock {
	var s api.GlassStock
	for range d.from(2, api.GlassBlanks) {
		s.Blanks = append(s.Blanks, api.GlassBlank{
			Index: d.span(1, api.GlassIndex, 5000), Colour: d.span(1, api.GlassColour, 300), Price: d.from(0, api.GlassPrice)})
	}
	for range d.from(1, api.GlassTools) {
		s.Tools = append(s.Tools, d.span(-api.GlassCurve, api.GlassCurve, 80))
	}
	return s
}

// graph returns a stock, and a wish for which two of its blanks are good just if their indices differ by some numbers.
func (d *dice) graph() (api.GlassStock, api.GlassWant) {
	s := api.GlassStock{Tools: []api.Span{to(0, 0), to(1, 1)}}
	for range d.from(6, api.GlassBlanks) {
		index := 500 + 10*d.from(0, 9)
		s.Blanks = append(s.Blanks, api.GlassBlank{Index: to(index, index), Colour: to(1, 1)})
	}
	return s, api.GlassWant{Power: to(10, 10*d.from(1, 2)), Colour: 2}
}

// truth returns a truth of a stock.
func (d *dice) truth(s api.GlassStock) api.GlassTruth {
	var t api.GlassTruth
	for _, b := range s.Blanks {
		t.Index, t.Colour = append(t.Index, d.in(b.Index)), append(t.Colour, d.in(b.Colour))
	}
	for _, tool := range s.Tools {
		t.Curve = append(t.Curve, d.in(tool))
	}
	return t
}

// objective returns an objective of a stock.
func (d *dice) objective(s api.GlassStock) api.GlassObjective {
	first := d.from(0, len(s.Blanks)-1)
	o := api.GlassObjective{First: first, Second: (first + d.from(1, len(s.Blanks)-1)) % len(s.Blanks)}
	for i := range o.Tools {
		o.Tools[i] = d.from(0, len(s.Tools)-1)
	}
	return o
}

// want returns a wish that is about what an objective of a stock does: a little more, or a little less.
func (d *dice) want(s api.GlassStock, o api.GlassObjective, more int) api.GlassWant {
	power, colour := slowSpans(s, o)
	low := power.Low + d.from(-more, 1)
	return api.GlassWant{
		Power:  to(low, max(low, power.High+d.from(-1, more))),
		Colour: max(0, slowWorst(colour)+d.from(-1, more)),
	}
}

// fringe returns a reading that agrees with a curvature; its plate is known so well, and its rings on either side.
func (d *dice) fringe(curve, plates, fewer, more int) api.GlassFringe {
	rings := d.from(0, 30)
	plate := curve + rings - 2*rings*d.from(0, 1)
	f := api.GlassFringe{
		Plate: to(plate-d.from(0, plates), plate+d.from(0, plates)),
		Rings: to(max(0, rings-d.from(0, fewer)), rings+d.from(0, more)),
	}
	if d.from(0, 3) == 0 {
		f.Press = 1
		if curve < plate {
			f.Press = -1
		}
	}
	return f
}

// curves returns all that the curvatures of tools can be.
func curves(tools []api.Span) [][]int {
	list := [][]int{nil}
	for _, tool := range tools {
		var longer [][]int
		for _, before := range list {
			for curve := tool.Low; curve <= tool.High; curve++ {
				longer = append(longer, append(slices.Clone(before), curve))
			}
		}
		list = longer
	}
	return list
}

// slowSpan returns between what an objective's number lies if its blanks have so much each for the bend of their lens, in all truths.
func slowSpan(s api.GlassStock, o api.GlassObjective, first, second api.Span) api.Span {
	var list []int
	for _, curve := range curves(s.Tools) {
		a, b, c := curve[o.Tools[0]], curve[o.Tools[1]], curve[o.Tools[2]]
		for x := first.Low; x <= first.High; x++ {
			for y := second.Low; y <= second.High; y++ {
				list = append(list, x*(a-b)+y*(b-c))
			}
		}
	}
	return to(slices.Min(list), slices.Max(list))
}

func slowSpans(s api.GlassStock, o api.GlassObjective) (power, colour api.Span) {
	first, second := s.Blanks[o.First], s.Blanks[o.Second]
	return slowSpan(s, o, first.Index, second.Index), slowSpan(s, o, first.Colour, second.Colour)
}

// slowWorst returns the worst of colours.
func slowWorst(colour api.Span) int { return max(-colour.Low, colour.High) }

func slowGood(s api.GlassStock, w api.GlassWant, o api.GlassObjective) bool {
	power, colour := slowSpans(s, o)
	return power.Low >= w.Power.Low && power.High <= w.Power.High && slowWorst(colour) <= w.Colour
}

// slowObjectives returns all objectives of a stock, the last one first.
func slowObjectives(s api.GlassStock) []api.GlassObjective {
	var list []api.GlassObjective
	blanks, tools := len(s.Blanks), len(s.Tools)
	for n := blanks*blanks*tools*tools*tools - 1; n >= 0; n-- {
		o := api.GlassObjective{Tools: [3]int{n / tools / tools % tools, n / tools % tools, n % tools}}
		both := n / tools / tools / tools
		if o.First, o.Second = both/blanks, both%blanks; o.First != o.Second {
			list = append(list, o)
		}
	}
	return list
}

// slowRank returns the numbers by which objectives are ordered: the best one has the least ones.
func slowRank(s api.GlassStock, o api.GlassObjective) []int {
	_, colour := slowSpans(s, o)
	price := s.Blanks[o.First].Price + s.Blanks[o.Second].Price
	return []int{slowWorst(colour), price, o.First, o.Second, o.Tools[0], o.Tools[1], o.Tools[2]}
}

// slowBest returns the best one of all that are good, and whether any is.
func slowBest(s api.GlassStock, w api.GlassWant) (best api.GlassObjective, some bool) {
	for _, o := range slowObjectives(s) {
		if slowGood(s, w, o) && (!some || slices.Compare(slowRank(s, o), slowRank(s, best)) < 0) {
			best, some = o, true
		}
	}
	return best, some
}

// slowPairs returns which two blanks, the lesser one first, are those of an objective that is good.
func slowPairs(s api.GlassStock, w api.GlassWant) [][2]int {
	var list [][2]int
	for _, o := range slowObjectives(s) {
		both := [2]int{min(o.First, o.Second), max(o.First, o.Second)}
		if slowGood(s, w, o) && !slices.Contains(list, both) {
			list = append(list, both)
		}
	}
	slices.SortFunc(list, func(a, b [2]int) int { return slices.Compare(a[:], b[:]) })
	return list
}

// slowMost returns how many pairs there can be with no blank in common, by what there can be of each set of blanks.
func slowMost(pairs [][2]int) int {
	var most [1 << api.GlassBlanks]int
	for set := range most {
		for _, both := range pairs {
			if two := 1<<both[0] | 1<<both[1]; set&two == two {
				most[set] = max(most[set], most[set&^two]+1)
			}
		}
	}
	return most[len(most)-1]
}

// firstMost returns how many pairs there are if the first one that can be is always taken.
func firstMost(pairs [][2]int) int {
	count, used := 0, 0
	for _, both := range pairs {
		if two := 1<<both[0] | 1<<both[1]; used&two == 0 {
			count, used = count+1, used|two
		}
	}
	return count
}

// slowAgrees reports whether a curvature agrees with a reading.
func slowAgrees(curve int, f api.GlassFringe) bool {
	for plate := f.Plate.Low; plate <= f.Plate.High; plate++ {
		off := max(curve-plate, plate-curve)
		if off < f.Rings.Low || off > f.Rings.High || f.Press == 1 && curve < plate || f.Press == -1 && curve > plate {
			continue
		}
		return true
	}
	return false
}

// slowSurface returns all curvatures that agree with all readings.
func slowSurface(l []api.GlassFringe) []int {
	var list []int
	for curve := -2100; curve <= 2100; curve++ {
		if !slices.ContainsFunc(l, func(f api.GlassFringe) bool { return !slowAgrees(curve, f) }) {
			list = append(list, curve)
		}
	}
	return list
}

// input has all that a call can need.
type input struct {
	stock     api.GlassStock
	want      api.GlassWant
	objective api.GlassObjective
	truth     api.GlassTruth
	fringes   []api.GlassFringe
}

// result has a field for each kind of result.
type result struct {
	yes       bool
	a, b      int
	p, c      api.Span
	objective api.GlassObjective
	list      []api.GlassObjective
	spans     []api.Span
	e         api.Errno
}

// call is a call of the package, all of whose results are in one value; and what it has beside a stock.
type call struct {
	name       string
	want, made bool
	do         func(in input) result
}

// stockCalls returns the calls that have a stock.
func stockCalls() []call {
	return []call{
		{"Check", false, false, func(in input) (r result) {
			r.e = glass.Check(in.stock)
			return r
		}},
		{"Seen", false, true, func(in input) (r result) {
			r.a, r.b, r.e = glass.Seen(in.stock, in.objective, in.truth)
			return r
		}},
		{"Spans", false, true, func(in input) (r result) {
			r.p, r.c, r.e = glass.Spans(in.stock, in.objective)
			return r
		}},
		{"Good", true, true, func(in input) (r result) {
			r.yes, r.e = glass.Good(in.stock, in.want, in.objective)
			return r
		}},
		{"Best", true, false, func(in input) (r result) {
			r.objective, r.a, r.e = glass.Best(in.stock, in.want)
			return r
		}},
		{"Most", true, false, func(in input) (r result) {
			r.list, r.e = glass.Most(in.stock, in.want)
			return r
		}},
	}
}

// allCalls returns the calls of all functions.
func allCalls() []call {
	return append(stockCalls(), call{"Surface", false, false, func(in input) (r result) {
		r.spans, r.e = glass.Surface(in.fringes)
		return r
	}})
}
