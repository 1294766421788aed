package level

import "octant/api"

// isStock reports whether vials are a stock, with as many prices.
func isStock(stock []api.LevelVial, prices []int) bool {
	if !within(len(stock), 1, api.LevelVials) || len(prices) != len(stock) {
		return false
	}
	for i, v := range stock {
		if !(vial{v}).valid() || !within(prices[i], 0, api.LevelPrice) {
			return false
		}
	}
	return true
}

// isWish reports whether a wish is one.
func isWish(w api.LevelWish) bool {
	return within(w.Range, 0, mostWish) && within(w.Fault, 0, mostWish)
}

// mostWish is the greatest range, and the greatest fault, that can be wished.
const mostWish = 100000

// offer is a vial that does, and its price.
type offer struct{ vial, price int }

// cheaper reports whether an offer has a lower price than another one.
func (o offer) cheaper(other offer) bool { return o.price < other.price }

// offersFor returns all vials of a stock that do for a wish.
func offersFor(stock []api.LevelVial, prices []int, w api.LevelWish) []offer {
	var list []offer
	for i, v := range stock {
		if (vial{v}).does(w) {
			list = append(list, offer{i, prices[i]})
		}
	}
	return list
}

// does reports whether the vial does for a wish.
func (v vial) does(w api.LevelWish) bool { return v.reaches(w.Range) && v.fault() <= w.Fault }

// reaches reports whether a tilt, to either side, leaves the whole bubble within the marks.
func (v vial) reaches(tilt int) bool {
	below, above := v.Zero.Low-v.Length.High, 2*v.Marks-v.Length.High-v.Zero.High
	// if there is no room, the product is less than 0, and no tilt is
	return tilt <= v.Value.Low*min(below, above)
}

// fault returns the greatest width of the tilt by a single direct reading of a bubble that is wholly within the marks.
func (v vial) fault() int {
	widest := 0
	for i := range 2*v.Marks - 2*v.Length.High + 1 {
		found := v.truths(middles{}.with(false, v.near(v.Length.High+i)))
		widest = max(widest, width(found.tilt))
	}
	return widest
}
