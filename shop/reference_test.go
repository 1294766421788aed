package shop_test

import (
	"slices"

	"octant/api"
)

// The functions of this file say slowly what the document says, to check the package against.

// dice is a row of numbers that look as if by chance, the same ones each time.
type dice uint64

// from returns a number from low to high.
func (d *dice) from(low, high int) int {
	*d = *d*6364136223846793005 + 1442695040888963407
	return low + int(uint64(*d)>>33)%(high-low+1)
}

// pick returns one of several things.
func pick[T any](d *dice, l ...T) T { return l[d.from(0, len(l)-1)] }

// slowLevel returns that of a piece: how many pieces there are from it to the whole.
func slowLevel(order []api.ShopPiece, piece int) int {
	level := 0
	for piece != api.NoPiece {
		level++
		piece = order[piece].Into
	}
	return level
}

func slowLevels(order []api.ShopPiece) []int {
	var levels []int
	for piece := range order {
		levels = append(levels, slowLevel(order, piece))
	}
	return levels
}

// slowBounds returns those of all levels.
func slowBounds(order []api.ShopPiece, men int) []int {
	var bounds []int
	for j := range slices.Max(slowLevels(order)) {
		above := 0
		for piece := range order {
			if slowLevel(order, piece) > j {
				above++
			}
		}
		days := above / men
		if above%men > 0 {
			days++
		}
		bounds = append(bounds, j+days)
	}
	return bounds
}

// dayOf returns the day of a plan on which a piece is made: -1 if there is none, or if there are several.
func dayOf(plan [][]int, piece int) int {
	day := -1
	for i, list := range plan {
		for _, x := range list {
			if x == piece && day >= 0 {
				return -1
			} else if x == piece {
				day = i
			}
		}
	}
	return day
}

// slowFits reports whether a plan is one.
func slowFits(order []api.ShopPiece, men int, plan [][]int) bool {
	if len(plan) == 0 || len(plan[len(plan)-1]) == 0 {
		return false
	}
	for _, list := range plan {
		if len(list) > men {
			return false
		}
		for i, piece := range list {
			if piece < 0 || piece >= len(order) || i > 0 && list[i-1] >= piece {
				return false
			}
		}
	}
	for piece, p := range order {
		day := dayOf(plan, piece)
		if day < 0 || p.Into != api.NoPiece && dayOf(plan, p.Into) <= day {
			return false
		}
	}
	return true
}

// slowDays returns the fewest days of a plan, by all sets of pieces that can have been made behind each day.
func slowDays(order []api.ShopPiece, men int) int {
	whole := 1<<len(order) - 1
	reached := map[int]bool{0: true}
	for days := 0; ; days++ {
		if reached[whole] {
			return days
		}
		next := map[int]bool{}
		for set := range reached {
			addDays(next, set, readySet(order, set), men)
		}
		reached = next
	}
}

// readySet returns the set of the pieces that can be made if those of a set were made before.
func readySet(order []api.ShopPiece, set int) int {
	ready := 0
	for piece := range order {
		can := set>>piece&1 == 0
		for other, p := range order {
			can = can && (p.Into != piece || set>>other&1 == 1)
		}
		if can {
			ready |= 1 << piece
		}
	}
	return ready
}

// addDays adds all sets that a day makes of a set, on which at most so many pieces are made of those that are ready.
func addDays(sets map[int]bool, set, ready, men int) {
	for some := ready; ; some = (some - 1) & ready {
		count := 0
		for k := range api.ShopPieces {
			count += some >> k & 1
		}
		if count <= men {
			sets[set|some] = true
		}
		if some == 0 {
			return
		}
	}
}

// slowCanBegin reports whether a plan can begin on a day.
func slowCanBegin(order []api.ShopPiece, plan [][]int, s api.ShopStore, begin int) bool {
	for last := range plan {
		brass, ivory := s.Brass, s.Ivory
		for _, x := range s.Lots {
			if x.Day <= begin+last {
				brass, ivory = brass+x.Brass, ivory+x.Ivory
			}
		}
		for _, list := range plan[:last+1] {
			for _, piece := range list {
				brass, ivory = brass-order[piece].Brass, ivory-order[piece].Ivory
			}
		}
		if brass < 0 || ivory < 0 {
			return false
		}
	}
	return true
}

// slowBegins returns the first day on which a plan can begin, and whether there is one.
func slowBegins(order []api.ShopPiece, plan [][]int, s api.ShopStore) (day int, found bool) {
	last := 0
	for _, x := range s.Lots {
		last = x.Day
	}
	for day := range last + 1 {
		if slowCanBegin(order, plan, s, day) {
			return day, true
		}
	}
	return 0, false
}

// slowUse returns what lengths use, by their numbers.
func slowUse(cut int, lengths, list []int) int {
	used := 0
	for i, number := range list {
		if i > 0 {
			used += cut
		}
		used += lengths[number]
	}
	return used
}

// lists returns all strictly increasing lists of numbers below a number, in their order.
func lists(below int) [][]int {
	var all [][]int
	for set := range 1 << below {
		var l []int
		for k := range below {
			if set>>k&1 == 1 {
				l = append(l, k)
			}
		}
		all = append(all, l)
	}
	slices.SortFunc(all, slices.Compare)
	return all
}

// slowSawn returns the first lengths that use most of a bar, and what they use.
func slowSawn(bar, cut int, lengths []int) (best []int, most int) {
	most = -1
	for _, l := range lists(len(lengths)) {
		if used := slowUse(cut, lengths, l); used <= bar && used > most {
			best, most = l, used
		}
	}
	return best, most
}

// arePosts reports whether a list is one of posts.
func arePosts(men []api.ShopMan, tasks, list []int) bool {
	if len(list) != len(tasks) {
		return false
	}
	for i, man := range list {
		if man < 0 || man >= len(men) || men[man].Skills>>tasks[i]&1 == 0 || slices.Contains(list[:i], man) {
			return false
		}
	}
	return true
}

// wagesOf returns those of the journeymen of a list.
func wagesOf(men []api.ShopMan, list []int) int {
	wages := 0
	for _, man := range list {
		wages += men[man].Wage
	}
	return wages
}

// slowPosts returns the first posts with the least wages, and whether there are posts, by all lists of journeymen.
func slowPosts(men []api.ShopMan, tasks []int) (best []int, found bool) {
	count := 1
	for range tasks {
		count *= len(men)
	}
	for number := range count {
		list := make([]int, len(tasks))
		for i := len(list) - 1; i >= 0; i-- {
			list[i] = number % len(men)
			number /= len(men)
		}
		if arePosts(men, tasks, list) && (!found || wagesOf(men, list) < wagesOf(men, best)) {
			best, found = list, true
		}
	}
	return best, found
}

// slowLacks reports whether the tasks of a list of numbers lack.
func slowLacks(men []api.ShopMan, tasks, list []int) bool {
	able := 0
	for _, m := range men {
		if slices.ContainsFunc(list, func(number int) bool { return m.Skills>>tasks[number]&1 == 1 }) {
			able++
		}
	}
	return len(list) > 0 && able < len(list)
}

// slowLack returns the first of the fewest tasks that lack: none, if there are none.
func slowLack(men []api.ShopMan, tasks []int) []int {
	for count := range len(tasks) + 1 {
		for _, list := range lists(len(tasks)) {
			if len(list) == count && slowLacks(men, tasks, list) {
				return list
			}
		}
	}
	return nil
}

// order returns one of so many pieces: long, broad or of any shape, of one instrument or of several.
func (d *dice) order(count int) []api.ShopPiece {
	var order []api.ShopPiece
	reach, wholes := pick(d, 1, 2, 3, 12), pick(d, 0, 1, 4)
	back := d.from(0, 2) == 0
	for piece := range count {
		into := min(piece+d.from(1, reach), count-1)
		if back {
			into = max(piece+1, count-d.from(1, reach))
		}
		if piece == count-1 || d.from(0, 9) < wholes {
			into = api.NoPiece
		}
		order = append(order, api.ShopPiece{Into: into, Brass: d.from(0, 4), Ivory: d.from(0, 1) * d.from(0, 4)})
	}
	return order
}

// plan returns one in which pieces are made as it comes, with days on which none is made.
func (d *dice) plan(order []api.ShopPiece, men int) [][]int {
	var plan [][]int
	for set := 0; set != 1<<len(order)-1; {
		ready := readySet(order, set)
		var day []int
		for piece := range order {
			if ready>>piece&1 == 1 && len(day) < men && d.from(0, 2) > 0 {
				day = append(day, piece)
				set |= 1 << piece
			}
		}
		plan = append(plan, day)
	}
	return plan
}

// changedPlan returns a plan with a change that may leave it one or not.
func (d *dice) changedPlan(plan [][]int, count int) [][]int {
	var list [][]int
	for _, day := range plan {
		list = append(list, slices.Clone(day))
	}
	at, other := d.from(0, len(list)-1), d.from(0, len(list)-1)
	piece := d.from(-1, count)
	switch d.from(0, 7) {
	case 0:
		list[at] = append(list[at], piece)
	case 1:
		list[at] = append(list[at], piece)
		slices.Sort(list[at])
	case 2:
		list[at], list[other] = list[other], list[at]
	case 3:
		list = slices.Delete(list, at, at+1)
	case 4:
		list = slices.Insert(list, at, nil)
	case 5:
		list = append(list, nil)
	case 6:
		slices.Reverse(list[at])
	case 7:
		list[at] = append(list[at], list[other]...)
		slices.Sort(list[at])
		list = slices.Delete(list, other, other+1)
	}
	return list
}

// store returns one with little of brass and ivory.
func (d *dice) store() api.ShopStore {
	s := api.ShopStore{Brass: d.from(0, 8), Ivory: d.from(0, 8)}
	day := d.from(0, 5)
	for range d.from(0, 6) {
		s.Lots = append(s.Lots, api.ShopLot{Day: day, Brass: d.from(0, 9), Ivory: d.from(0, 9)})
		day += d.from(0, 4)
	}
	return s
}

// team returns at most so many journeymen and tasks, of few skills.
func (d *dice) team(most int) (men []api.ShopMan, tasks []int) {
	skills := d.from(1, 5)
	for range d.from(0, most) {
		men = append(men, api.ShopMan{Skills: d.from(0, 1<<skills-1), Wage: d.from(0, pick(d, 1, 5, 10000))})
	}
	for range d.from(0, most) {
		tasks = append(tasks, d.from(0, skills-1))
	}
	return men, tasks
}

// numbers returns as many numbers from 1 on.
func (d *dice) numbers(count, most int) []int {
	var l []int
	for range count {
		l = append(l, d.from(1, most))
	}
	return l
}
