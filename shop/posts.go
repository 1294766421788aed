package shop

import (
	"cmp"
	"slices"

	"octant/api"
)

// team is journeymen with skills, and the tasks for them.
type team struct {
	men   []api.ShopMan
	tasks []int
}

func (t team) valid() bool {
	if len(t.men) > api.ShopTasks || len(t.tasks) > api.ShopTasks {
		return false
	}
	for _, m := range t.men {
		if !within(m.Skills, 0, 1<<api.ShopSkills-1) || !within(m.Wage, 0, api.ShopWage) {
			return false
		}
	}
	return allWithin(t.tasks, 0, api.ShopSkills-1)
}

// canDo reports whether a journeyman has the skill of some of the tasks.
func canDo(m api.ShopMan, tasks ...int) bool {
	for _, skill := range tasks {
		if m.Skills>>skill&1 == 1 {
			return true
		}
	}
	return false
}

// wages returns those of posts.
func (t team) wages(posts []int) int {
	return sum(func(number int) int { return t.men[number].Wage }, posts...)
}

// cheapest returns the first posts with the least wages, and whether there are posts.
func (t team) cheapest() (cheapest []int, found bool) {
	var fill func(posts []int)
	fill = func(posts []int) {
		if len(posts) == len(t.tasks) {
			if !found || t.wages(posts) < t.wages(cheapest) {
				cheapest, found = slices.Clone(posts), true
			}
			return
		}
	trying:
		for number, m := range t.men {
			for _, other := range posts {
				if other == number {
					continue trying
				}
			}
			if canDo(m, t.tasks[len(posts)]) {
				fill(append(posts, number))
			}
		}
	}
	fill(nil)
	return cheapest, found
}

// lacking returns the first of the fewest tasks that lack: none, if there are posts.
func (t team) lacking() []int {
	var fewest []int
	for set := 1; set < 1<<len(t.tasks); set++ {
		list := elements(set, len(t.tasks))
		if t.lack(list) && (fewest == nil || compareLists(list, fewest) < 0) {
			fewest = list
		}
	}
	return fewest
}

// lack reports whether tasks, of which the numbers are given, lack.
func (t team) lack(numbers []int) bool {
	var tasks []int
	for _, number := range numbers {
		tasks = append(tasks, t.tasks[number])
	}
	able := 0
	for _, m := range t.men {
		if canDo(m, tasks...) {
			able++
		}
	}
	return able < len(numbers)
}

// elements returns those of a set that are less than a number.
func elements(set, below int) []int {
	var list []int
	for k := range below {
		if set>>k&1 == 1 {
			list = append(list, k)
		}
	}
	return list
}

// compareLists returns less than 0 if a list has fewer elements than another one, or as many and comes before it.
func compareLists(a, b []int) int {
	return cmp.Or(cmp.Compare(len(a), len(b)), slices.Compare(a, b))
}
