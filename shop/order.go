package shop

import "octant/api"

// isOrder reports whether pieces are an order.
func isOrder(order []api.ShopPiece) bool {
	if !within(len(order), 1, api.ShopPieces) {
		return false
	}
	for number, p := range order {
		if p.Into != api.NoPiece && !within(p.Into, number+1, len(order)-1) {
			return false
		}
		if !within(p.Brass, 0, api.ShopMetal) || !within(p.Ivory, 0, api.ShopMetal) {
			return false
		}
	}
	return true
}

// mostDays is the greatest number of days for which journeymen can be asked.
const mostDays = 12

// areMen reports whether a number is one of journeymen.
func areMen(men int) bool { return within(men, 1, api.ShopMen) }

// piece is a piece in the calculation, with its number and its level.
type piece struct {
	api.ShopPiece
	number, level int
}

func (p piece) brass() int { return p.Brass }
func (p piece) ivory() int { return p.Ivory }

// pieces are those of an order, by their numbers.
type pieces []piece

func piecesOf(order []api.ShopPiece) pieces {
	var level func(p api.ShopPiece) int
	level = func(p api.ShopPiece) int {
		if p.Into == api.NoPiece {
			return 1
		}
		return 1 + level(order[p.Into])
	}
	var l pieces
	for number, p := range order {
		l = append(l, piece{p, number, level(p)})
	}
	return l
}

func (l pieces) levels() []int {
	var levels []int
	for _, p := range l {
		levels = append(levels, p.level)
	}
	return levels
}

func (l pieces) height() int {
	height := 0
	for _, p := range l {
		height = max(height, p.level)
	}
	return height
}

// bound returns that of a level, for so many journeymen.
func (l pieces) bound(level, men int) int {
	above := 0
	for _, p := range l {
		if p.level > level {
			above++
		}
	}
	return level + (above+men-1)/men
}

// days returns how many a plan has that has as few as any: the greatest bound, which the plan of shortest attains.
func (l pieces) days(men int) int {
	days := 0
	for level := range l.height() {
		days = max(days, l.bound(level, men))
	}
	return days
}

// levelBeyond returns the least level whose bound is greater than so many days, and whether there is one.
func (l pieces) levelBeyond(days, men int) (level int, found bool) {
	for level := range l.height() {
		if l.bound(level, men) > days {
			return level, true
		}
	}
	return 0, false
}

// fewestMen returns how many journeymen do within so many days, which are not less than the height, and the level that proves that fewer do not.
func (l pieces) fewestMen(days int) (men, level int) {
	men = 1
	for {
		proof, late := l.levelBeyond(days, men)
		if !late {
			return men, level
		}
		men, level = men+1, proof
	}
}
