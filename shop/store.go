package shop

import "octant/api"

// store is a store in the calculation.
type store struct{ api.ShopStore }

func (s store) valid() bool {
	if !isStock(s.Brass, s.Ivory) || len(s.Lots) > api.ShopLots {
		return false
	}
	last := 0
	for _, x := range s.Lots {
		if !within(x.Day, last, api.MaxDay) || !isStock(x.Brass, x.Ivory) {
			return false
		}
		last = x.Day
	}
	return true
}

// isStock reports whether a store, or a lot, can have so much of each metal.
func isStock(metals ...int) bool { return allWithin(metals, 0, api.ShopStock) }

// lot is a lot in the calculation.
type lot struct{ api.ShopLot }

func (x lot) brass() int { return x.Brass }
func (x lot) ivory() int { return x.Ivory }

// lots returns those that come, behind one that stands for what was there at first: no plan begins before the day 0.
func (s store) lots() []lot {
	list := []lot{{api.ShopLot{Brass: s.Brass, Ivory: s.Ivory}}}
	for _, x := range s.Lots {
		list = append(list, lot{x})
	}
	return list
}

// begins returns the first day on which a plan of pieces can begin, and whether there is one.
func (s store) begins(l pieces, plan [][]int) (first int, can bool) {
	asked := [...]func(piece) int{piece.brass, piece.ivory}
	brought := [...]func(lot) int{lot.brass, lot.ivory}
	for metal := range asked {
		day, does := begins(l.asked(asked[metal], plan), s.lots(), brought[metal])
		if !does {
			return 0, false
		}
		first = max(first, day)
	}
	return first, true
}

// asked returns what the pieces of each day of a plan take of a metal.
func (l pieces) asked(of func(piece) int, plan [][]int) []int {
	var days []int
	for _, numbers := range plan {
		days = append(days, sum(func(number int) int { return of(l[number]) }, numbers...))
	}
	return days
}

// begins returns the first day on which a plan can begin that takes so much of a metal on each of its days, and whether there is one.
func begins(asked []int, lots []lot, brought func(lot) int) (first int, can bool) {
	lacking := 0
	for day, more := range asked {
		lacking += more
		for lacking > 0 {
			if len(lots) == 0 {
				return 0, false
			}
			lacking -= brought(lots[0])
			first = max(first, lots[0].Day-day)
			lots = lots[1:]
		}
	}
	return first, true
}
