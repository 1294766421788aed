package sextant

import "octant/api"

// isStock reports whether parts are a stock.
func isStock(stock []api.SextantPart) bool {
	if !within(len(stock), 3, api.SextantParts) || !within(len(stock[0].Errors), 2, api.SextantNodes) {
		return false
	}
	for _, p := range stock {
		if !within(p.Kind, api.SextantArc, api.SextantHorizon) || !within(p.Price, 0, api.SextantPrice) {
			return false
		}
		if len(p.Errors) != len(stock[0].Errors) || !areSpans(p.Errors, api.SextantError) {
			return false
		}
	}
	return true
}

// place is a place for a part in a sextant.
type place struct {
	takes func(p api.SextantPart) bool // whether a part belongs there
}

// placeFor returns the place for the parts of a kind.
func placeFor(kind int) place {
	return place{func(p api.SextantPart) bool { return p.Kind == kind }}
}

// among returns the numbers of the parts that belong to the place.
func (at place) among(stock []api.SextantPart) []int {
	var list []int
	for i, p := range stock {
		if at.takes(p) {
			list = append(list, i)
		}
	}
	return list
}

// three are three parts, in the order of their kinds, and what they cost together.
type three struct {
	parts [3]int
	price int
}

func (t three) cheaper(other three) bool { return t.price < other.price }

// fitting returns all three parts that fit within a bound, in their order.
func fitting(stock []api.SextantPart, bound int) []three {
	arcs := placeFor(api.SextantArc).among(stock)
	mirrors := placeFor(api.SextantMirror).among(stock)
	horizons := placeFor(api.SextantHorizon).among(stock)
	var list []three
	for _, a := range arcs {
		for _, m := range mirrors {
			for _, h := range horizons {
				if fit(stock[a], stock[m], stock[h], bound) {
					list = append(list, three{[3]int{a, m, h}, stock[a].Price + stock[m].Price + stock[h].Price})
				}
			}
		}
	}
	return list
}

// fit reports whether three parts fit within a bound.
func fit(a, b, c api.SextantPart, bound int) bool {
	for k := range len(a.Errors) {
		if !isSpan(sum(a.Errors[k], b.Errors[k], c.Errors[k]), -bound, bound) {
			return false
		}
	}
	return true
}
