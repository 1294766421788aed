package shop_test

import (
	"math"
	"reflect"
	"testing"

	"octant/api"
	"octant/shop"
)

// wrongPlans returns lists of days that are no plan of the order of the examples for two journeymen.
func wrongPlans() [][][]int {
	return [][][]int{
		nil,
		days(),
		days(nil),
		days(day(0, 1), day(2, 3), day(4, 5)),
		days(day(0, 1), day(2, 3), day(4, 5), day(6), nil),
		days(day(0, 1), day(2, 3), day(4, 5), day(7)),
		days(day(0, 1, 2), day(3), day(4, 5), day(6)),
		days(day(0, 1), day(3, 2), day(4, 5), day(6)),
		days(day(0, 1), day(2, 4), day(3, 5), day(6)),
		days(day(0, 1), day(2, 3), day(4, 5), day(6, 6)),
		days(day(0, 1), day(2, 3), day(4, 5), day(-1)),
		days(day(0, 1), day(2, 3), day(4, 5), day(math.MinInt, 6), day(math.MaxInt)),
	}
}

// P10.3: the error of the plan comes before that of the store, and this one before that there is no day.
func TestPlanComesBeforeStore(t *testing.T) {
	for _, plan := range wrongPlans() {
		for _, s := range append(wrongStores(), shopStore(), api.ShopStore{}) {
			if begin, e := shop.Begins(shopOrder(), 2, plan, s); begin != 0 || e != api.ErrShopPlan {
				t.Errorf("Begins with %v: %d, %d", plan, begin, e)
			}
		}
	}
	if begin, e := shop.Begins(shopOrder(), 1, shopPlan(), shopStore()); begin != 0 || e != api.ErrShopPlan {
		t.Errorf("Begins with a plan for more journeymen: %d, %d", begin, e)
	}
	for _, s := range wrongStores() {
		for _, order := range [][]api.ShopPiece{shopOrder(), built(4, 4, 5, 5, 6, 6, api.NoPiece)} {
			if begin, e := shop.Begins(order, 2, shopPlan(), s); begin != 0 || e != api.ErrShopStore {
				t.Errorf("Begins with %v: %d, %d", s, begin, e)
			}
		}
	}
}

// P10.3
func TestBegins(t *testing.T) {
	lots := func(l ...api.ShopLot) []api.ShopLot { return l }
	one := func(brass, ivory int) []api.ShopPiece {
		return []api.ShopPiece{{Into: api.NoPiece, Brass: brass, Ivory: ivory}}
	}
	rich := []api.ShopPiece{{Into: 1, Brass: 10000}, {Into: 2, Ivory: 10000}, {Into: api.NoPiece, Brass: 10000, Ivory: 10000}}
	chained := days(day(0), day(1), day(2))
	for _, x := range []struct {
		order []api.ShopPiece
		plan  [][]int
		s     api.ShopStore
		want  int
		e     api.Errno
	}{
		{shopOrder(), shopPlan(), shopStore(), 3, api.OK},
		// what is there at first, and what comes on the day
		{one(5, 7), days(day(0)), api.ShopStore{Brass: 5, Ivory: 7}, 0, api.OK},
		{one(5, 7), days(day(0)), api.ShopStore{Brass: 4, Ivory: 7}, 0, api.ErrNone},
		{one(5, 7), days(day(0)), api.ShopStore{Brass: 5, Ivory: 6}, 0, api.ErrNone},
		{one(5, 7), days(day(0)), api.ShopStore{Brass: 5, Lots: lots(api.ShopLot{Day: 9, Ivory: 7})}, 9, api.OK},
		{one(5, 7), days(day(0)), api.ShopStore{Ivory: 7, Lots: lots(api.ShopLot{Day: 9, Brass: 5})}, 9, api.OK},
		{one(5, 7), days(day(0)), api.ShopStore{Ivory: 7, Lots: lots(api.ShopLot{Day: 9, Brass: 4})}, 0, api.ErrNone},
		{one(5, 7), days(day(0)), api.ShopStore{Ivory: 7, Lots: lots(api.ShopLot{Day: 9, Brass: 4}, api.ShopLot{Day: 9, Brass: 1})}, 9, api.OK},
		{one(5, 7), days(day(0)), api.ShopStore{Ivory: 7, Lots: lots(api.ShopLot{Day: 9, Brass: 4}, api.ShopLot{Day: 10}, api.ShopLot{Day: 11, Brass: 1}, api.ShopLot{Day: 12, Brass: 9})}, 11, api.OK},
		{one(5, 7), days(day(0)), api.ShopStore{Lots: lots(api.ShopLot{Day: 3, Brass: 5}, api.ShopLot{Day: 8, Ivory: 7})}, 8, api.OK},
		{one(5, 7), days(day(0)), api.ShopStore{Lots: lots(api.ShopLot{Day: 3, Ivory: 7}, api.ShopLot{Day: 8, Brass: 5})}, 8, api.OK},
		{one(5, 7), days(day(0)), api.ShopStore{Lots: lots(api.ShopLot{Day: 0, Brass: 5, Ivory: 7})}, 0, api.OK},
		{one(5, 7), days(day(0)), api.ShopStore{Lots: lots(api.ShopLot{Day: 100000, Brass: 5, Ivory: 7})}, 100000, api.OK},
		{one(0, 0), days(day(0)), api.ShopStore{}, 0, api.OK},
		{one(0, 0), days(day(0)), api.ShopStore{Lots: lots(api.ShopLot{Day: 5, Brass: 1})}, 0, api.OK},
		{one(1, 0), days(day(0)), api.ShopStore{}, 0, api.ErrNone},
		// what is taken on a later day may come later
		{one(5, 0), days(nil, nil, day(0)), api.ShopStore{Lots: lots(api.ShopLot{Day: 9, Brass: 5})}, 7, api.OK},
		{one(5, 0), days(nil, nil, day(0)), api.ShopStore{Lots: lots(api.ShopLot{Day: 2, Brass: 5})}, 0, api.OK},
		{one(5, 0), days(nil, nil, day(0)), api.ShopStore{Lots: lots(api.ShopLot{Day: 1, Brass: 5})}, 0, api.OK},
		{one(5, 0), days(nil, nil, day(0)), api.ShopStore{Lots: lots(api.ShopLot{Day: 3, Brass: 5})}, 1, api.OK},
		// which day decides
		{rich, chained, api.ShopStore{Brass: 20000, Ivory: 20000}, 0, api.OK},
		{rich, chained, api.ShopStore{Brass: 20000, Ivory: 19999}, 0, api.ErrNone},
		{rich, chained, api.ShopStore{Brass: 19999, Ivory: 20000}, 0, api.ErrNone},
		{rich, chained, api.ShopStore{Ivory: 20000, Lots: lots(api.ShopLot{Day: 5, Brass: 20000})}, 5, api.OK},
		{rich, chained, api.ShopStore{Brass: 10000, Ivory: 20000, Lots: lots(api.ShopLot{Day: 5, Brass: 10000})}, 3, api.OK},
		{rich, chained, api.ShopStore{Brass: 20000, Lots: lots(api.ShopLot{Day: 5, Ivory: 20000})}, 4, api.OK},
		{rich, chained, api.ShopStore{Brass: 20000, Lots: lots(api.ShopLot{Day: 5, Ivory: 10000}, api.ShopLot{Day: 6, Ivory: 10000})}, 4, api.OK},
		{rich, chained, api.ShopStore{Brass: 20000, Lots: lots(api.ShopLot{Day: 5, Ivory: 10000}, api.ShopLot{Day: 7, Ivory: 10000})}, 5, api.OK},
		{rich, chained, api.ShopStore{Lots: lots(api.ShopLot{Day: 4, Brass: 10000}, api.ShopLot{Day: 5, Ivory: 20000}, api.ShopLot{Day: 5, Brass: 10000})}, 4, api.OK},
		{rich, chained, api.ShopStore{Lots: lots(api.ShopLot{Day: 1, Brass: 20000}, api.ShopLot{Day: 1, Ivory: 9999}, api.ShopLot{Day: 1, Ivory: 1}, api.ShopLot{Day: 1, Ivory: 10000})}, 1, api.OK},
		// the most of all
		{rich, chained, api.ShopStore{Brass: 100000, Ivory: 100000, Lots: lots(make([]api.ShopLot, 12)...)}, 0, api.OK},
	} {
		if begin, e := shop.Begins(x.order, 4, x.plan, x.s); begin != x.want || e != x.e {
			t.Errorf("Begins(%v, %v, %v): %d, %d, not %d, %d", x.order, x.plan, x.s, begin, e, x.want, x.e)
		}
	}
}

// P10.3: the greatest store, and the greatest order.
func TestBeginsWithMost(t *testing.T) {
	order := loose(12)
	for i := range order {
		order[i].Brass, order[i].Ivory = 10000, 10000
	}
	plan := days(day(0, 1, 2, 3, 4, 5, 6, 7, 8, 9, 10, 11))
	s := api.ShopStore{Brass: 100000, Ivory: 100000}
	for i := range 12 {
		s.Lots = append(s.Lots, api.ShopLot{Day: 99989 + i, Brass: 100000, Ivory: 100000})
	}
	if begin, e := shop.Begins(order, 12, plan, s); begin != 99989 || e != api.OK {
		t.Errorf("Begins: %d, %d", begin, e)
	}
	for i := range 11 {
		s.Lots[i].Brass = 0
	}
	s.Lots[11].Brass = 20000
	if begin, e := shop.Begins(order, 12, plan, s); begin != 100000 || e != api.OK {
		t.Errorf("Begins: %d, %d", begin, e)
	}
	s.Lots[11].Brass = 19999
	if begin, e := shop.Begins(order, 12, plan, s); begin != 0 || e != api.ErrNone {
		t.Errorf("Begins: %d, %d", begin, e)
	}
	twelve := api.ShopStore{Lots: make([]api.ShopLot, 12)}
	if begin, e := shop.Begins(chain(1), 1, days(day(0)), twelve); begin != 0 || e != api.OK {
		t.Errorf("Begins with twelve lots: %d, %d", begin, e)
	}
}

// P10.3: by trying each day.
func TestBeginsAll(t *testing.T) {
	var d dice
	later, none := 0, 0
	for range 5000 {
		order, men := d.order(d.from(1, 8)), d.from(1, 4)
		plan, s := d.plan(order, men), d.store()
		want, found := slowBegins(order, plan, s)
		e := api.OK
		if !found {
			none++
			e = api.ErrNone
		}
		if begin, f := shop.Begins(order, men, plan, s); begin != want || f != e {
			t.Fatalf("Begins(%v, %v, %v): %d, %d, not %d, %d", order, plan, s, begin, f, want, e)
		}
		if want > 0 {
			later++
		}
	}
	if later < 1000 || none < 500 {
		t.Errorf("only %d begin later, %d never", later, none)
	}
}

// P10.4
func TestSaw(t *testing.T) {
	long := []int{10000, 9999, 1, 5000}
	for _, x := range []struct {
		bar, cut int
		lengths  []int
		want     []int
		used     int
	}{
		{20, 1, []int{9, 6, 4, 12}, []int{1, 3}, 19},
		{16, 1, []int{9, 6, 4, 12}, []int{0, 1}, 16},
		// none
		{3, 1, []int{9, 6, 4, 12}, nil, 0},
		{4, 1, []int{9, 6, 4, 12}, []int{2}, 4},
		{1, 0, []int{2}, nil, 0},
		{1, 1000, []int{1}, []int{0}, 1},
		{9999, 0, []int{10000}, nil, 0},
		{10000, 1000, long, []int{0}, 10000},
		{9999, 1000, long, []int{1}, 9999},
		{9998, 1000, long, []int{2, 3}, 6001},
		{10000, 0, long, []int{0}, 10000},
		{10000, 0, []int{9999, 10000, 1}, []int{0, 2}, 10000},
		// a cut between each two, none before the first one
		{10, 1, []int{4, 5}, []int{0, 1}, 10},
		{9, 1, []int{4, 5}, []int{1}, 5},
		{9, 0, []int{4, 5}, []int{0, 1}, 9},
		{12, 1, []int{3, 3, 3}, []int{0, 1, 2}, 11},
		{11, 1, []int{3, 3, 3}, []int{0, 1, 2}, 11},
		{10, 1, []int{3, 3, 3}, []int{0, 1}, 7},
		{10, 1000, []int{3, 3, 3}, []int{0}, 3},
		{1006, 1000, []int{3, 3, 3}, []int{0, 1}, 1006},
		{1005, 1000, []int{3, 3, 3}, []int{0}, 3},
		// a cut is used, too
		{12, 4, []int{4, 4, 11}, []int{0, 1}, 12},
		{12, 3, []int{4, 4, 11}, []int{0, 1}, 11},
		{12, 2, []int{4, 4, 11}, []int{2}, 11},
		// the first of several
		{5, 0, []int{5, 5, 5}, []int{0}, 5},
		{5, 0, []int{6, 5, 5}, []int{1}, 5},
		{7, 0, []int{7, 3, 4}, []int{0}, 7},
		{7, 0, []int{3, 7, 4}, []int{0, 2}, 7},
		{7, 0, []int{3, 4, 7}, []int{0, 1}, 7},
		{7, 1, []int{4, 2, 7, 3}, []int{0, 1}, 7},
		{8, 0, []int{2, 4, 4, 2, 2}, []int{0, 1, 3}, 8},
		{8, 0, []int{6, 4, 4, 2, 2}, []int{0, 3}, 8},
		{7, 1, []int{1, 1, 1, 3, 5}, []int{0, 1, 3}, 7},
		// as many as there can be
		{16, 0, []int{1, 1, 1, 1, 1, 1, 1, 1, 1, 1, 1, 1, 1, 1, 1, 1}, []int{0, 1, 2, 3, 4, 5, 6, 7, 8, 9, 10, 11, 12, 13, 14, 15}, 16},
		{31, 1, []int{1, 1, 1, 1, 1, 1, 1, 1, 1, 1, 1, 1, 1, 1, 1, 1}, []int{0, 1, 2, 3, 4, 5, 6, 7, 8, 9, 10, 11, 12, 13, 14, 15}, 31},
		{30, 1, []int{1, 1, 1, 1, 1, 1, 1, 1, 1, 1, 1, 1, 1, 1, 1, 1}, []int{0, 1, 2, 3, 4, 5, 6, 7, 8, 9, 10, 11, 12, 13, 14}, 29},
	} {
		if list, used, e := shop.Saw(x.bar, x.cut, x.lengths); !reflect.DeepEqual(append(day(), list...), append(day(), x.want...)) || used != x.used || e != api.OK {
			t.Errorf("Saw(%d, %d, %v): %v, %d, %d, not %v, %d", x.bar, x.cut, x.lengths, list, used, e, x.want, x.used)
		}
	}
}

// P10.4
func TestNoSaw(t *testing.T) {
	wrong := func(bar, cut int, lengths []int) {
		t.Helper()
		if list, used, e := shop.Saw(bar, cut, lengths); list != nil || used != 0 || e != api.ErrShopSaw {
			t.Errorf("Saw(%d, %d, %v): %v, %d, %d", bar, cut, lengths, list, used, e)
		}
	}
	for _, x := range append(numbersOff(1, 10000), -1) {
		wrong(x, 1, []int{3, 4})
		wrong(20, 1, []int{x})
		wrong(20, 1, []int{x, 4})
		wrong(20, 1, []int{3, 4, 5, x})
	}
	for _, x := range append(numbersOff(0, 1000), 10000) {
		wrong(20, x, []int{3, 4})
	}
	wrong(20, 1, nil)
	wrong(20, 1, day())
	wrong(20, 1, make([]int, 1))
	var d dice
	wrong(20, 1, d.numbers(17, 5))
	wrong(20, 1, d.numbers(100000, 5))
}

// P10.4, P10.10: by all lengths that can be sawn.
func TestSawAll(t *testing.T) {
	var d dice
	several, none := 0, 0
	for i := range 2000 {
		count, most := d.from(1, 8), pick(&d, 5, 30, 10000)
		if i%200 == 0 {
			count = 16
		}
		bar, cut, lengths := d.from(1, min(10000, 2*most)), d.from(0, min(1000, pick(&d, 0, 2, most))), d.numbers(count, most)
		want, most := slowSawn(bar, cut, lengths)
		list, used, e := shop.Saw(bar, cut, lengths)
		if !reflect.DeepEqual(append(day(), list...), append(day(), want...)) || used != most || e != api.OK {
			t.Fatalf("Saw(%d, %d, %v): %v, %d, %d, not %v, %d", bar, cut, lengths, list, used, e, want, most)
		}
		if len(want) > 2 {
			several++
		}
		if len(want) == 0 {
			none++
		}
	}
	if several < 300 || none < 50 {
		t.Errorf("only %d have several lengths, %d none", several, none)
	}
}
