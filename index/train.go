package index

import (
	"slices"

	"octant/api"
)

// isStock reports whether wheels are a stock.
func isStock(stock []int) bool {
	if !within(len(stock), 2, api.IndexStock) {
		return false
	}
	for _, teeth := range stock {
		if !within(teeth, 10, api.IndexWheel) {
			return false
		}
	}
	return true
}

// noTrain stands for a train that there is not: no train has the same wheel twice.
func noTrain() api.IndexTrain { return api.IndexTrain{} }

// rack is a stock, and for each number of teeth the wheels that have it.
type rack struct {
	stock []int
	with  map[int][]int
}

func newRack(stock []int) rack {
	r := rack{stock, map[int][]int{}}
	for wheel, teeth := range stock {
		r.with[teeth] = append(r.with[teeth], wheel)
	}
	return r
}

// train returns the first train for a ratio of p to q, or noTrain.
func (r rack) train(p, q int) api.IndexTrain {
	if w := r.wheels(2, p, q); w != nil {
		return api.IndexTrain{A: w[0], B: w[1], C: -1, D: -1}
	}
	if w := r.wheels(4, p, q); w != nil {
		return api.IndexTrain{A: w[0], B: w[1], C: w[2], D: w[3]}
	}
	return noTrain()
}

// wheels returns the first wheels of a train that has so many of them, or nil.
func (r rack) wheels(count, p, q int) []int {
	// the sides are the two products that must be the same: what drives times q, and what is driven times p
	var choose func(chosen []int, sides [2]int) []int
	choose = func(chosen []int, sides [2]int) []int {
		if len(chosen) == count-1 {
			return r.last(chosen, sides)
		}
	next:
		for wheel, teeth := range r.stock {
			for _, c := range chosen {
				if c == wheel {
					continue next
				}
			}
			longer := sides
			longer[len(chosen)%2] *= teeth
			if all := choose(append(chosen[:len(chosen):len(chosen)], wheel), longer); all != nil {
				return all
			}
		}
		return nil
	}
	return choose(nil, [2]int{q, p})
}

// last returns the chosen wheels with the first wheel that makes both sides the same, or nil.
func (r rack) last(chosen []int, sides [2]int) []int {
	if sides[0]%sides[1] != 0 {
		return nil
	}
	for _, wheel := range r.with[sides[0]/sides[1]] {
		if !slices.Contains(chosen, wheel) {
			return append(chosen[:len(chosen):len(chosen)], wheel)
		}
	}
	return nil
}
