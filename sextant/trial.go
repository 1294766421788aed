package sextant

import (
	"slices"

	"octant/api"
)

// The least and the greatest angle that is known at a trial.
const (
	leastTrue = -10000
	mostTrue  = 510000
)

// haveTrials reports whether trials are such of the sextant.
func (s sextant) haveTrials(l []api.SextantTrial) bool {
	if !within(len(l), 1, api.SextantTrials) {
		return false
	}
	for _, one := range l {
		if !s.haveReading(one.SextantReading) || one.At%s.Step != 0 || !within(one.True, leastTrue, mostTrue) {
			return false
		}
	}
	return true
}

// angles tells of each angle of a table whether it has a trial.
type angles [api.SextantNodes]bool

// told is what trials tell: which angles have one, and for each of these between what its correction and the index error lie together.
type told struct {
	tried angles
	sums  map[int]api.Span
}

// hear returns what trials tell.
func (s sextant) hear(l []api.SextantTrial) told {
	all := told{sums: map[int]api.Span{}}
	for _, one := range l {
		k := one.At / s.Step
		rest := sum(exactly(one.At), together(s.passing(), one.SextantReading))
		both := sum(exactly(one.True), minus(rest))
		if all.tried[k] {
			both = common(both, all.sums[k])
		}
		all.tried[k], all.sums[k] = true, both
	}
	return all
}

// byTrials returns between what the corrections, and the index error lie, in all truths in which trials can be so.
func (s sextant) byTrials(all told) (table []api.Span, index api.Span) {
	if all.tried == (angles{}) {
		return slices.Clone(s.Table), s.Index
	}
	table, index = slices.Repeat([]api.Span{noSpan()}, len(s.Table)), noSpan()
errors:
	for i := range s.indexErrors() {
		var now [api.SextantNodes]api.Span
		for k := range len(s.Table) {
			now[k] = s.Table[k]
			if all.tried[k] {
				now[k] = common(now[k], sum(all.sums[k], exactly(-i)))
			}
			if now[k] == noSpan() {
				continue errors
			}
		}
		index = around(index, exactly(i))
		for k := range len(s.Table) {
			table[k] = around(table[k], now[k])
		}
	}
	return table, index
}

// canBe reports whether trials can all be so.
func (s sextant) canBe(l []api.SextantTrial) bool {
	_, index := s.byTrials(s.hear(l))
	return index != noSpan()
}

// fewestFalse returns the fewest trials that cannot all be so, of several lists the first one.
func (s sextant) fewestFalse(l []api.SextantTrial) []int {
	// choose takes so many more trials, from a place on, to those that are chosen, until they cannot all be so.
	var choose func(numbers []int, chosen []api.SextantTrial, from, more int) []int
	choose = func(numbers []int, chosen []api.SextantTrial, from, more int) []int {
		if more == 0 {
			if s.canBe(chosen) {
				return nil
			}
			return numbers
		}
		for i := from; i < len(l); i++ {
			found := choose(append(slices.Clip(numbers), i), append(slices.Clip(chosen), l[i]), i+1, more-1)
			if found != nil {
				return found
			}
		}
		return nil
	}
	for count := range len(l) + 1 {
		if found := choose(nil, nil, 0, count); found != nil {
			return found
		}
	}
	return nil
}
