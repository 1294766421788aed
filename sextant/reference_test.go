package sextant_test

import (
	"slices"

	"octant/api"
	"octant/sextant"
)

// The functions of this file say slowly what the document says, to check the package against.

// dice is a row of numbers that look as if by chance, the same ones each time.
type dice uint64

// from returns a number from low to high.
func (d *dice) from(low, high int) int {
	*d = *d*6364136223846793005 + 1442695040888963407
	return low + int(uint64(*d)>>33)%(high-low+1)
}

// span returns a span from low to high that is not wider than some number.
func (d *dice) span(low, high, wide int) api.Span {
	a := d.from(low, high)
	return api.Span{Low: a, High: min(a+d.from(0, wide), high)}
}

// spans returns so many spans.
func (d *dice) spans(count, low, high, wide int) []api.Span {
	var list []api.Span
	for range count {
		list = append(list, d.span(low, high, wide))
	}
	return list
}

// in returns a number that lies in a span.
func (d *dice) in(s api.Span) int { return d.from(s.Low, s.High) }

// picks returns a number of each span.
func (d *dice) picks(spans []api.Span) []int {
	var list []int
	for _, s := range spans {
		list = append(list, d.in(s))
	}
	return list
}

// within returns a span of numbers of a span.
func (d *dice) within(s api.Span) api.Span {
	low := d.in(s)
	return to(low, d.from(low, s.High))
}

// small returns a valid sextant, with so few truths that all of them can be tried.
func (d *dice) small() api.Sextant {
	return api.Sextant{
		Step:  d.from(1, 7),
		Table: d.spans(d.from(2, 4), -9, 9, 2),
		Index: d.span(-4, 4, 3),
		Wrong: d.from(0, 2),
		Shade: d.spans(d.from(0, 2), -3, 3, 2),
	}
}

// large returns a valid sextant of any size.
func (d *dice) large() api.Sextant {
	nodes := d.from(2, api.SextantNodes)
	return api.Sextant{
		Step:  d.from(1, min(api.SextantStep, api.SextantLong/(nodes-1))),
		Table: d.spans(nodes, -api.SextantCorrect, api.SextantCorrect, 90),
		Index: d.span(-api.SextantIndex, api.SextantIndex, 200),
		Wrong: d.from(0, api.SextantWrong),
		Shade: d.spans(d.from(0, api.SextantShades), -api.SextantShade, api.SextantShade, 60),
	}
}

// reading returns a reading of a sextant.
func (d *dice) reading(s api.Sextant) api.SextantReading {
	x := api.SextantReading{At: d.from(0, lastAngle(s)), Shades: d.from(0, 1<<len(s.Shade)-1)}
	if d.from(0, 3) == 0 {
		x.At -= x.At % s.Step
	}
	return x
}

// lastAngle returns the last angle of a sextant's table.
func lastAngle(s api.Sextant) int { return s.Step * (len(s.Table) - 1) }

// truth is a truth of a sextant.
type truth struct {
	table  []int
	index  int
	shades []int
}

func (d *dice) truth(s api.Sextant) truth {
	return truth{d.picks(s.Table), d.in(s.Index), d.picks(s.Shade)}
}

// slowDown divides by a number above 0, and rounds down, step by step.
func slowDown(x, by int) int {
	q := x/by - 1
	for (q+1)*by <= x {
		q++
	}
	return q
}

// correction returns the correction at an angle in a truth.
func (t truth) correction(step, x int) int {
	behind := x % step
	if behind == 0 {
		return t.table[x/step]
	}
	return slowDown(t.table[x/step]*(step-behind)+t.table[x/step+1]*behind, step)
}

// angle returns the true angle of a reading in a truth, if it was read wrongly by a number.
func (t truth) angle(step int, x api.SextantReading, wrong int) int {
	angle := x.At + t.index + t.correction(step, x.At) + wrong
	for k, shade := range t.shades {
		if x.Shades&(1<<k) != 0 {
			angle += shade
		}
	}
	return angle
}

// allPicks returns all lists of a number of each span.
func allPicks(spans []api.Span) [][]int {
	list := [][]int{nil}
	for _, s := range spans {
		var longer [][]int
		for _, before := range list {
			for x := s.Low; x <= s.High; x++ {
				longer = append(longer, append(slices.Clone(before), x))
			}
		}
		list = longer
	}
	return list
}

// allTruths returns all truths of a sextant.
func allTruths(s api.Sextant) []truth {
	var list []truth
	shades := allPicks(s.Shade)
	for _, table := range allPicks(s.Table) {
		for index := s.Index.Low; index <= s.Index.High; index++ {
			for _, shade := range shades {
				list = append(list, truth{table, index, shade})
			}
		}
	}
	return list
}

// hull is between what numbers lie.
type hull struct {
	span api.Span
	some bool
}

func (h *hull) add(x int) {
	if !h.some {
		h.span = to(x, x)
	}
	h.span, h.some = to(min(h.span.Low, x), max(h.span.High, x)), true
}

// slowRead returns between what the true angle lies, by all truths.
func slowRead(s api.Sextant, truths []truth, x api.SextantReading) api.Span {
	var angles hull
	for _, t := range truths {
		for wrong := -s.Wrong; wrong <= s.Wrong; wrong++ {
			angles.add(t.angle(s.Step, x, wrong))
		}
	}
	return angles.span
}

// slowFault returns the fault of a sextant, by all readings.
func slowFault(s api.Sextant, truths []truth) int {
	fault := 0
	for at := 0; at <= lastAngle(s); at++ {
		for shades := range 1 << len(s.Shade) {
			angle := slowRead(s, truths, api.SextantReading{At: at, Shades: shades})
			fault = max(fault, angle.High-angle.Low)
		}
	}
	return fault
}

func slowClass(fault int) int {
	if fault > 200 {
		return 3
	}
	if fault > 40 {
		return 2
	}
	return 1
}

// sunCanBe reports whether pairs can be so with an index error and a diameter.
func sunCanBe(s api.Sextant, l []api.SextantSun, i, disc int) bool {
	for _, p := range l {
		if lies := to(-s.Wrong, s.Wrong); !has(lies, p.On-(disc-i)) || !has(lies, p.Off-(disc+i)) {
			return false
		}
	}
	return true
}

// slowIndex returns between what the index errors and the diameters lie, by all of both.
func slowIndex(s api.Sextant, diameter api.Span, l []api.SextantSun) (index, disc hull) {
	for i := s.Index.Low; i <= s.Index.High; i++ {
		for d := diameter.Low; d <= diameter.High; d++ {
			if sunCanBe(s, l, i, d) {
				index.add(i)
				disc.add(d)
			}
		}
	}
	return index, disc
}

// allow tells of each number whether the index error and the correction can be it together, by a trial.
func allow(s api.Sextant, x api.SextantTrial) map[int]bool {
	var used []api.Span
	for k, shade := range s.Shade {
		if x.Shades&(1<<k) != 0 {
			used = append(used, shade)
		}
	}
	sums := map[int]bool{}
	for _, shades := range allPicks(used) {
		for wrong := -s.Wrong; wrong <= s.Wrong; wrong++ {
			rest := x.True - x.At - wrong
			for _, shade := range shades {
				rest -= shade
			}
			sums[rest] = true
		}
	}
	return sums
}

// slowTrial returns between what corrections and the index error lie, by all of them with which all trials can be so.
func slowTrial(s api.Sextant, l []api.SextantTrial) (table []api.Span, index hull) {
	nodes := make([]hull, len(s.Table))
	var allowed []map[int]bool
	for _, x := range l {
		allowed = append(allowed, allow(s, x))
	}
	for _, corrections := range allPicks(s.Table) {
	errors:
		for i := s.Index.Low; i <= s.Index.High; i++ {
			for n, x := range l {
				if !allowed[n][i+corrections[x.At/s.Step]] {
					continue errors
				}
			}
			index.add(i)
			for k := range nodes {
				nodes[k].add(corrections[k])
			}
		}
	}
	for _, node := range nodes {
		table = append(table, node.span)
	}
	return table, index
}

// chosen returns the trials that a set has, and their numbers.
func chosen(l []api.SextantTrial, set int) (some []api.SextantTrial, numbers []int) {
	for i, x := range l {
		if set&(1<<i) != 0 {
			some, numbers = append(some, x), append(numbers, i)
		}
	}
	return some, numbers
}

// slowFalse returns the fewest trials that cannot all be so, of several lists the first one; nil if all can.
func slowFalse(s api.Sextant, l []api.SextantTrial) []int {
	var fewest []int
	for set := range 1 << len(l) {
		some, numbers := chosen(l, set)
		if fewest != nil && (len(numbers) > len(fewest) || len(numbers) == len(fewest) && slices.Compare(numbers, fewest) > 0) {
			continue
		}
		if _, index := slowTrial(s, some); !index.some {
			fewest = numbers
		}
	}
	return fewest
}

// slowFit reports whether parts are of the kinds 0, 1 and 2, and fit within a bound.
func slowFit(stock []api.SextantPart, parts []int, bound int) bool {
	for kind, part := range parts {
		if stock[part].Kind != kind {
			return false
		}
	}
	for k := range stock[0].Errors {
		low, high := 0, 0
		for _, part := range parts {
			low, high = low+stock[part].Errors[k].Low, high+stock[part].Errors[k].High
		}
		if low < -bound || high > bound {
			return false
		}
	}
	return true
}

// slowAssemble returns the cheapest parts that fit, of several lists the first one, and what they cost; nil if there are none.
func slowAssemble(stock []api.SextantPart, bound int) (parts []int, price int) {
	for n := len(stock)*len(stock)*len(stock) - 1; n >= 0; n-- {
		these := []int{n / len(stock) / len(stock), n / len(stock) % len(stock), n % len(stock)}
		cost := 0
		for _, part := range these {
			cost += stock[part].Price
		}
		if slowFit(stock, these, bound) && (parts == nil || cost <= price) {
			parts, price = these, cost
		}
	}
	return parts, price
}

// input has all that a call can need.
type input struct {
	sextant  api.Sextant
	reading  api.SextantReading
	diameter api.Span
	suns     []api.SextantSun
	trials   []api.SextantTrial
	stock    []api.SextantPart
	bound    int
}

// result has a field for each kind of result.
type result struct {
	a, b  int
	p, q  api.Span
	spans []api.Span
	list  []int
	e     api.Errno
}

// call is a call of the package, all of whose results are in one value (an empty list is nil); and the error of what it has beside a sextant.
type call struct {
	name string
	own  api.Errno
	do   func(in input) result
}

// some returns nil for an empty list.
func some[T any](l []T) []T {
	if len(l) == 0 {
		return nil
	}
	return l
}

// sextantCalls returns the calls that have a sextant.
func sextantCalls() []call {
	return []call{
		{"Check", api.OK, func(in input) (r result) {
			r.e = sextant.Check(in.sextant)
			return r
		}},
		{"Read", api.ErrSextantAt, func(in input) (r result) {
			r.p, r.e = sextant.Read(in.sextant, in.reading)
			return r
		}},
		{"Index", api.ErrSextantSun, func(in input) (r result) {
			r.p, r.q, r.e = sextant.Index(in.sextant, in.diameter, in.suns)
			return r
		}},
		{"Trial", api.ErrSextantTrial, func(in input) (r result) {
			r.spans, r.p, r.e = sextant.Trial(in.sextant, in.trials)
			r.spans = some(r.spans)
			return r
		}},
		{"False", api.ErrSextantTrial, func(in input) (r result) {
			r.list, r.e = sextant.False(in.sextant, in.trials)
			r.list = some(r.list)
			return r
		}},
		{"Class", api.OK, func(in input) (r result) {
			r.a, r.b, r.e = sextant.Class(in.sextant)
			return r
		}},
	}
}

// allCalls returns the calls of all functions.
func allCalls() []call {
	return append(sextantCalls(), call{"Assemble", api.ErrSextantStock, func(in input) (r result) {
		r.list, r.a, r.e = sextant.Assemble(in.stock, in.bound)
		r.list = some(r.list)
		return r
	}})
}
