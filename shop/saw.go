package shop

import "octant/api"

// mostCut is the most that a cut takes.
const mostCut = 1000

// canSaw reports whether a bar, a cut and lengths are such.
func canSaw(bar, cut int, lengths []int) bool {
	return within(bar, 1, api.ShopLong) && within(cut, 0, mostCut) &&
		within(len(lengths), 1, api.ShopSaw) && allWithin(lengths, 1, api.ShopLong)
}

// rest is what is left of a bar for the lengths from a number on.
type rest struct{ number, left int }

// without returns the rest behind its first length.
func (r rest) without() rest { return rest{r.number + 1, r.left} }

// with returns the rest behind its first length, which takes so much.
func (r rest) with(takes int) rest { return rest{r.number + 1, r.left - takes} }

// saw is what each length takes of a bar together with a cut, and the most that is used of each rest that was tried.
type saw struct {
	takes []int
	tried map[rest]int
}

func newSaw(cut int, lengths []int) saw {
	s := saw{tried: map[rest]int{}}
	for _, length := range lengths {
		s.takes = append(s.takes, length+cut)
	}
	return s
}

// most returns the most that can be used of a rest.
func (s saw) most(r rest) int {
	if r.number == len(s.takes) {
		return 0
	}
	if most, was := s.tried[r]; was {
		return most
	}
	most := s.most(r.without())
	if takes := s.takes[r.number]; takes <= r.left {
		most = max(most, takes+s.most(r.with(takes)))
	}
	s.tried[r] = most
	return most
}

// first returns the first lengths that use most of a rest.
func (s saw) first(r rest) []int {
	var list []int
	for number, takes := range s.takes {
		if takes <= r.left && takes+s.most(r.with(takes)) == s.most(r) {
			list = append(list, number)
			r = r.with(takes)
		} else {
			r = r.without()
		}
	}
	return list
}

// sawn returns the first lengths that use most of a bar, and what they use.
func sawn(bar, cut int, lengths []int) (list []int, used int) {
	// a bar that is longer by a cut has room for one before the first length, too
	whole := rest{left: bar + cut}
	s := newSaw(cut, lengths)
	list = s.first(whole)
	if len(list) == 0 {
		return nil, 0
	}
	return list, s.most(whole) - cut
}
