package shop_test

import (
	"math"
	"slices"
	"testing"

	"octant/api"
	"octant/shop"
)

// alike returns as many journeymen with the same skills and wages.
func alike(count, skills, wage int) []api.ShopMan {
	return slices.Repeat([]api.ShopMan{{Skills: skills, Wage: wage}}, count)
}

// hands returns journeymen, each with skills and a wage.
func hands(l ...[2]int) []api.ShopMan {
	var men []api.ShopMan
	for _, x := range l {
		men = append(men, api.ShopMan{Skills: x[0], Wage: x[1]})
	}
	return men
}

// P10.5
func TestPosts(t *testing.T) {
	for _, x := range []struct {
		men   []api.ShopMan
		tasks []int
		want  []int
		wages int
	}{
		{shopHands(), []int{0, 1}, []int{1, 2}, 11},
		{shopHands(), []int{1, 1}, []int{0, 2}, 16},
		// no tasks
		{shopHands(), nil, nil, 0},
		{nil, nil, nil, 0},
		{shopHands(), []int{0}, []int{1}, 4},
		{shopHands(), []int{1}, []int{2}, 7},
		{shopHands(), []int{1, 0}, []int{2, 1}, 11},
		{shopHands(), []int{0, 0}, []int{0, 1}, 13},
		{shopHands(), []int{0, 1, 1}, []int{1, 0, 2}, 20},
		{shopHands(), []int{1, 0, 0}, []int{2, 0, 1}, 20},
		// the first of several
		{alike(8, 1, 5), []int{0, 0, 0}, []int{0, 1, 2}, 15},
		{alike(8, 65535, 10000), []int{15, 0, 15, 7, 3, 3, 3, 3}, []int{0, 1, 2, 3, 4, 5, 6, 7}, 80000},
		{hands([2]int{1, 5}, [2]int{1, 4}, [2]int{1, 4}), []int{0}, []int{1}, 4},
		{hands([2]int{1, 5}, [2]int{1, 4}, [2]int{1, 4}), []int{0, 0}, []int{1, 2}, 8},
		{hands([2]int{3, 5}, [2]int{2, 5}, [2]int{1, 5}), []int{0, 1}, []int{0, 1}, 10},
		{hands([2]int{3, 5}, [2]int{1, 5}), []int{0, 1}, []int{1, 0}, 10},
		// who is cheap for one task is asked for another one
		{hands([2]int{3, 1}, [2]int{1, 2}, [2]int{2, 9}), []int{0, 1}, []int{1, 0}, 3},
		{hands([2]int{7, 1}, [2]int{3, 2}, [2]int{1, 3}), []int{0, 1, 2}, []int{2, 1, 0}, 6},
		{hands([2]int{7, 1}, [2]int{3, 2}, [2]int{1, 3}), []int{2, 1, 0}, []int{0, 1, 2}, 6},
		{hands([2]int{7, 1}, [2]int{3, 0}, [2]int{1, 0}), []int{1, 0}, []int{1, 2}, 0},
		{hands([2]int{0, 0}, [2]int{1, 10000}), []int{0}, []int{1}, 10000},
		{hands([2]int{1 << 15, 3}, [2]int{1, 2}), []int{15}, []int{0}, 3},
	} {
		if list, wages, e := shop.Posts(x.men, x.tasks); !slices.Equal(list, x.want) || wages != x.wages || e != api.OK {
			t.Errorf("Posts(%v, %v): %v, %d, %d, not %v, %d", x.men, x.tasks, list, wages, e, x.want, x.wages)
		}
		if list, e := shop.Lack(x.men, x.tasks); list != nil || e != api.ErrNone {
			t.Errorf("Lack(%v, %v): %v, %d", x.men, x.tasks, list, e)
		}
	}
}

// P10.5
func TestLack(t *testing.T) {
	for _, x := range []struct {
		men   []api.ShopMan
		tasks []int
		want  []int
	}{
		{shopHands(), []int{1, 1, 0, 1}, []int{0, 1, 3}},
		{shopHands(), []int{0, 1, 0, 1}, []int{0, 1, 2, 3}},
		{shopHands(), []int{0, 2, 1}, []int{1}},
		{shopHands(), []int{0, 0, 0}, []int{0, 1, 2}},
		{nil, []int{0}, []int{0}},
		{nil, []int{5, 4, 3}, []int{0}},
		{alike(8, 0, 1), []int{1, 2}, []int{0}},
		{alike(1, 65535, 1), []int{15, 3}, []int{0, 1}},
		{alike(7, 65535, 1), []int{0, 1, 2, 3, 4, 5, 6, 7}, []int{0, 1, 2, 3, 4, 5, 6, 7}},
		// the fewest, and the first of several
		{hands([2]int{1, 1}, [2]int{2, 1}, [2]int{2, 1}), []int{1, 1, 1, 0, 0}, []int{3, 4}},
		{hands([2]int{1, 1}, [2]int{2, 1}), []int{1, 0, 0, 1}, []int{0, 3}},
		{hands([2]int{1, 1}, [2]int{2, 1}), []int{0, 0, 0, 1}, []int{0, 1}},
		{hands([2]int{1, 1}, [2]int{2, 1}), []int{1, 0, 1, 0}, []int{0, 2}},
		{hands([2]int{1, 1}, [2]int{2, 1}), []int{1, 0, 1, 0, 7}, []int{4}},
		{hands([2]int{1, 1}, [2]int{2, 1}), []int{7, 1, 0, 1, 0, 7}, []int{0}},
		{hands([2]int{3, 1}, [2]int{3, 1}, [2]int{4, 1}), []int{0, 1, 0, 2}, []int{0, 1, 2}},
		{hands([2]int{3, 1}, [2]int{3, 1}, [2]int{4, 1}), []int{2, 1, 0, 0}, []int{1, 2, 3}},
	} {
		if list, e := shop.Lack(x.men, x.tasks); !slices.Equal(list, x.want) || e != api.OK {
			t.Errorf("Lack(%v, %v): %v, %d, not %v", x.men, x.tasks, list, e, x.want)
		}
		if list, wages, e := shop.Posts(x.men, x.tasks); list != nil || wages != 0 || e != api.ErrNone {
			t.Errorf("Posts(%v, %v): %v, %d, %d", x.men, x.tasks, list, wages, e)
		}
	}
}

// P10.5
func TestNoTeam(t *testing.T) {
	wrong := func(men []api.ShopMan, tasks []int) {
		t.Helper()
		if list, wages, e := shop.Posts(men, tasks); list != nil || wages != 0 || e != api.ErrShopTask {
			t.Errorf("Posts(%v, %v): %v, %d, %d", men, tasks, list, wages, e)
		}
		if list, e := shop.Lack(men, tasks); list != nil || e != api.ErrShopTask {
			t.Errorf("Lack(%v, %v): %v, %d", men, tasks, list, e)
		}
	}
	// with tasks that lack, with tasks for which there are posts, and with none
	for _, tasks := range [][]int{{9}, {0, 1}, nil} {
		for i := range shopHands() {
			for _, x := range numbersOff(0, 65535) {
				men := shopHands()
				men[i].Skills = x
				wrong(men, tasks)
			}
			for _, x := range numbersOff(0, 10000) {
				men := shopHands()
				men[i].Wage = x
				wrong(men, tasks)
			}
		}
		wrong(alike(9, 3, 1), tasks)
		wrong(alike(100000, 3, 1), tasks)
	}
	for _, men := range [][]api.ShopMan{shopHands(), nil, alike(8, 65535, 1)} {
		for _, x := range append(numbersOff(0, 15), 64, -64, math.MaxInt32) {
			wrong(men, []int{x})
			wrong(men, []int{x, 0})
			wrong(men, []int{0, 1, x})
		}
		wrong(men, make([]int, 9))
		wrong(men, make([]int, 100000))
	}
}

// P10.5, P10.11: by all lists of journeymen, and all tasks.
func TestPostsAndLackAll(t *testing.T) {
	var d dice
	posts, lacks := map[int]int{}, map[int]int{}
	for i := range 3000 {
		most := 5
		if i%10 == 0 {
			most = 6
		}
		men, tasks := d.team(most)
		want, found := slowPosts(men, tasks)
		list, wages, e := shop.Posts(men, tasks)
		lack, f := shop.Lack(men, tasks)
		if !found {
			if list != nil || wages != 0 || e != api.ErrNone || !slices.Equal(lack, slowLack(men, tasks)) || f != api.OK {
				t.Fatalf("%v, %v: %v, %d, %d; %v, %d, not %v", men, tasks, list, wages, e, lack, f, slowLack(men, tasks))
			}
			lacks[len(lack)]++
			continue
		}
		if !slices.Equal(list, want) || wages != wagesOf(men, want) || e != api.OK || lack != nil || f != api.ErrNone {
			t.Fatalf("%v, %v: %v, %d, %d; %v, %d, not %v", men, tasks, list, wages, e, lack, f, want)
		}
		posts[len(list)]++
	}
	for count := 1; count <= 3; count++ {
		if posts[count] < 50 || lacks[count] < 50 {
			t.Errorf("posts for so many tasks: %v, so many that lack: %v", posts, lacks)
		}
	}
}
