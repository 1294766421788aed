package shop_test

import (
	"math"
	"reflect"
	"slices"
	"testing"

	"octant/api"
	"octant/shop"
)

// built returns an order of pieces that are built into others and take nothing.
func built(into ...int) []api.ShopPiece {
	var order []api.ShopPiece
	for _, x := range into {
		order = append(order, api.ShopPiece{Into: x})
	}
	return order
}

// chain returns an order of so many pieces, each built into the next one.
func chain(count int) []api.ShopPiece {
	order := built(make([]int, count)...)
	for i := range order {
		order[i].Into = i + 1
	}
	order[count-1].Into = api.NoPiece
	return order
}

// star returns an order of so many pieces, all built into the last one.
func star(count int) []api.ShopPiece {
	order := built(slices.Repeat([]int{count - 1}, count)...)
	order[count-1].Into = api.NoPiece
	return order
}

// loose returns an order of so many pieces, none built into another one.
func loose(count int) []api.ShopPiece {
	return built(slices.Repeat([]int{api.NoPiece}, count)...)
}

// days returns a plan.
func days(plan ...[]int) [][]int { return plan }

// day returns one of a plan.
func day(pieces ...int) []int { return pieces }

// shopOrder, shopPlan, shopStore and shopHands are those of the document's examples.
func shopOrder() []api.ShopPiece {
	order := built(4, 4, 5, 5, 6, 6, api.NoPiece)
	for i := range order {
		order[i].Brass = 2
	}
	order[6].Ivory = 5
	return order
}

func shopPlan() [][]int { return days(day(0, 1), day(2, 3), day(4, 5), day(6)) }

func shopStore() api.ShopStore {
	return api.ShopStore{Brass: 4, Lots: []api.ShopLot{{Day: 3, Brass: 6, Ivory: 5}, {Day: 5, Brass: 4}}}
}

func shopHands() []api.ShopMan {
	return []api.ShopMan{{Skills: 3, Wage: 9}, {Skills: 1, Wage: 4}, {Skills: 2, Wage: 7}}
}

// numbersOff returns numbers that are not from low to high.
func numbersOff(low, high int) []int {
	return []int{low - 1, high + 1, math.MinInt, math.MaxInt}
}

// withPiece returns the order of the examples with a change of a piece.
func withPiece(i int, change func(p *api.ShopPiece)) []api.ShopPiece {
	order := shopOrder()
	change(&order[i])
	return order
}

func validOrders() [][]api.ShopPiece {
	list := [][]api.ShopPiece{
		shopOrder(),
		built(1, api.NoPiece, 3, api.NoPiece),
		built(11, 11, 11, 11, 11, 11, 11, 11, 11, 11, 11, api.NoPiece),
		{{Into: api.NoPiece, Brass: 10000, Ivory: 10000}},
		withPiece(3, func(p *api.ShopPiece) { p.Brass = 10000 }),
		withPiece(3, func(p *api.ShopPiece) { p.Ivory = 10000 }),
		withPiece(3, func(p *api.ShopPiece) { p.Into = api.NoPiece }),
		withPiece(3, func(p *api.ShopPiece) { p.Into = 6 }),
	}
	for count := 1; count <= 12; count++ {
		list = append(list, chain(count), star(count), loose(count))
	}
	return list
}

func invalidOrders() [][]api.ShopPiece {
	list := [][]api.ShopPiece{nil, {}, chain(13), star(13), loose(13), loose(100000), built(0), built(1), built(1, 0), built(api.NoPiece, 0), built(1, 2), built(-2)}
	for i := range shopOrder() {
		for into := -3; into < 10; into++ {
			if into != api.NoPiece && (into <= i || into > 6) {
				list = append(list, withPiece(i, func(p *api.ShopPiece) { p.Into = into }))
			}
		}
		list = append(list, withPiece(i, func(p *api.ShopPiece) { p.Into = math.MinInt }), withPiece(i, func(p *api.ShopPiece) { p.Into = math.MaxInt }))
		for _, x := range numbersOff(0, 10000) {
			list = append(list, withPiece(i, func(p *api.ShopPiece) { p.Brass = x }), withPiece(i, func(p *api.ShopPiece) { p.Ivory = x }))
		}
	}
	return list
}

// P10.1
func TestCheck(t *testing.T) {
	for _, order := range validOrders() {
		if e := shop.Check(order); e != api.OK {
			t.Errorf("Check(%v): %d", order, e)
		}
	}
	for _, order := range invalidOrders() {
		if e := shop.Check(order); e != api.ErrShop {
			t.Errorf("Check(%v): %d", order, e)
		}
	}
}

// wrongStores returns stores that are not valid.
func wrongStores() []api.ShopStore {
	list := []api.ShopStore{
		{Lots: make([]api.ShopLot, 13)},
		{Lots: make([]api.ShopLot, 100000)},
		{Lots: []api.ShopLot{{Day: 5}, {Day: 4}}},
		{Lots: []api.ShopLot{{Day: 5}, {Day: 6}, {Day: 5}}},
		{Lots: []api.ShopLot{{Day: 0}, {Day: 100000}, {Day: 0}}},
	}
	for _, x := range numbersOff(0, 100000) {
		for _, change := range []func(s *api.ShopStore){
			func(s *api.ShopStore) { s.Brass = x },
			func(s *api.ShopStore) { s.Ivory = x },
			func(s *api.ShopStore) { s.Lots[0].Day = x },
			func(s *api.ShopStore) { s.Lots[1].Day = x },
			func(s *api.ShopStore) { s.Lots[0].Brass = x },
			func(s *api.ShopStore) { s.Lots[1].Brass = x },
			func(s *api.ShopStore) { s.Lots[0].Ivory = x },
			func(s *api.ShopStore) { s.Lots[1].Ivory = x },
		} {
			s := shopStore()
			change(&s)
			list = append(list, s)
		}
	}
	return list
}

// P10.1, P10.2, P10.3: the error of the order comes first, whatever else is wrong, and no result comes with it.
func TestOrderComesFirst(t *testing.T) {
	for _, c := range orderCalls() {
		for _, order := range invalidOrders() {
			for _, in := range []input{shopInput(), {store: wrongStores()[0]}} {
				in.order = order
				if r := c.do(in); !reflect.DeepEqual(r, result{e: api.ErrShop}) {
					t.Errorf("%s with %v: %v", c.name, order, r)
				}
			}
		}
	}
}

// P10.1, P10.2, P10.3: the error of the journeymen comes next, before those of the plan and of the store.
func TestMenComeNext(t *testing.T) {
	for _, c := range menCalls() {
		for _, men := range append(numbersOff(1, 12), -5, 13, 100) {
			for _, in := range []input{shopInput(), {order: chain(3), store: wrongStores()[0]}} {
				in.men = men
				if r := c.do(in); !reflect.DeepEqual(r, result{e: api.ErrShopMen}) {
					t.Errorf("%s with %d journeymen: %v", c.name, men, r)
				}
			}
		}
		for men := 1; men <= 12; men++ {
			in := shopInput()
			in.men = men
			if r := c.do(in); r.e == api.ErrShopMen {
				t.Errorf("%s with %d journeymen: %v", c.name, men, r)
			}
		}
	}
}

// P10.1
func TestLevels(t *testing.T) {
	for _, x := range []struct {
		order []api.ShopPiece
		want  []int
	}{
		{shopOrder(), []int{3, 3, 3, 3, 2, 2, 1}},
		{chain(1), []int{1}},
		{chain(12), []int{12, 11, 10, 9, 8, 7, 6, 5, 4, 3, 2, 1}},
		{star(12), []int{2, 2, 2, 2, 2, 2, 2, 2, 2, 2, 2, 1}},
		{loose(3), []int{1, 1, 1}},
		{built(1, api.NoPiece, 4, api.NoPiece, 5, api.NoPiece), []int{2, 1, 3, 1, 2, 1}},
		{built(api.NoPiece, 3, 3, 4, api.NoPiece), []int{1, 3, 3, 2, 1}},
	} {
		if levels, e := shop.Levels(x.order); !slices.Equal(levels, x.want) || e != api.OK {
			t.Errorf("Levels(%v): %v, %d", x.order, levels, e)
		}
	}
	var d dice
	for range 2000 {
		order := d.order(d.from(1, 12))
		if levels, e := shop.Levels(order); !slices.Equal(levels, slowLevels(order)) || e != api.OK {
			t.Fatalf("Levels(%v): %v, %d", order, levels, e)
		}
	}
}

// P10.1
func TestFits(t *testing.T) {
	for _, x := range []struct {
		order []api.ShopPiece
		men   int
		plan  [][]int
		want  bool
	}{
		{shopOrder(), 2, shopPlan(), true},
		{shopOrder(), 12, shopPlan(), true},
		{shopOrder(), 1, shopPlan(), false},
		{shopOrder(), 1, days(day(0), day(1), day(2), day(3), day(4), day(5), day(6)), true},
		{shopOrder(), 1, days(day(2), day(3), day(5), day(1), day(0), day(4), day(6)), true},
		{shopOrder(), 4, days(day(0, 1, 2, 3), day(4, 5), day(6)), true},
		{shopOrder(), 3, days(day(0, 1, 2, 3), day(4, 5), day(6)), false},
		{shopOrder(), 3, days(day(0, 1), day(2, 3, 4), day(5), day(6)), true},
		// days on which none is made
		{shopOrder(), 4, days(nil, day(0, 1, 2, 3), nil, nil, day(4, 5), day(), day(6)), true},
		{shopOrder(), 4, days(day(0, 1, 2, 3), day(4, 5), day(6), nil), false},
		{shopOrder(), 4, days(day(0, 1, 2, 3), day(4, 5), day(6), day(), day()), false},
		{chain(1), 1, days(day(0)), true},
		{chain(1), 1, days(nil, day(0)), true},
		{chain(1), 1, days(day(0), nil), false},
		{chain(1), 1, nil, false},
		{chain(1), 1, days(), false},
		{chain(1), 1, days(nil), false},
		{chain(1), 12, days(nil, nil, nil), false},
		// a piece that is not made, or made twice
		{shopOrder(), 2, days(day(0, 1), day(2, 3), day(4, 5)), false},
		{shopOrder(), 2, days(day(0, 1), day(2), day(4), day(6)), false},
		{loose(3), 2, days(day(0, 1)), false},
		{loose(3), 2, days(day(0, 1), day(1, 2)), false},
		{loose(3), 3, days(day(0, 1, 2), day(2)), false},
		{loose(3), 4, days(day(0, 1, 2, 2)), false},
		{loose(3), 4, days(day(0, 0, 1, 2)), false},
		{loose(1), 4, days(day(0, 0)), false},
		// pieces that are not in order, or none of the order
		{loose(3), 3, days(day(0, 1, 2)), true},
		{loose(3), 3, days(day(0, 2, 1)), false},
		{loose(3), 3, days(day(2, 1, 0)), false},
		{loose(3), 3, days(day(2), day(1), day(0)), true},
		{loose(3), 4, days(day(0, 1, 2, 3)), false},
		{loose(3), 4, days(day(-1, 0, 1, 2)), false},
		{loose(3), 4, days(day(0, 1, 2, math.MaxInt)), false},
		{loose(3), 4, days(day(math.MinInt, 0, 1, 2)), false},
		{loose(3), 2, days(day(0, 1), day(2), day(3)), false},
		{loose(3), 2, days(day(0, 1), day(2), day(11)), false},
		{loose(3), 2, days(day(0, 1), day(2), day(12)), false},
		// before, or on the day of, what is built into it
		{chain(2), 2, days(day(0), day(1)), true},
		{chain(2), 2, days(day(0, 1)), false},
		{chain(2), 2, days(day(1), day(0)), false},
		{shopOrder(), 4, days(day(0, 1, 2, 4), day(3), day(5), day(6)), false},
		{shopOrder(), 4, days(day(0, 2, 3), day(4, 5), day(1), day(6)), false},
		{shopOrder(), 4, days(day(0, 1, 2, 3), day(4, 6), day(5)), false},
		{built(2, 2, api.NoPiece, api.NoPiece), 2, days(day(0, 3), day(1), day(2)), true},
		{built(2, 2, api.NoPiece, api.NoPiece), 2, days(day(0, 3), day(1, 2)), false},
		{loose(12), 12, days(day(0, 1, 2, 3, 4, 5, 6, 7, 8, 9, 10, 11)), true},
		{loose(12), 11, days(day(0, 1, 2, 3, 4, 5, 6, 7, 8, 9, 10, 11)), false},
		{loose(12), 11, days(day(0, 1, 2, 3, 4, 5, 6, 7, 8, 9, 10), day(11)), true},
	} {
		if fits, e := shop.Fits(x.order, x.men, x.plan); fits != x.want || e != api.OK {
			t.Errorf("Fits(%v, %d, %v): %v, %d", x.order, x.men, x.plan, fits, e)
		}
	}
}

// P10.1: plans, and others, by what the document says of plans.
func TestFitsAll(t *testing.T) {
	var d dice
	counts := map[bool]int{}
	for range 20000 {
		order, men := d.order(d.from(1, 12)), d.from(1, 12)
		plan := d.plan(order, max(1, men-d.from(0, 1)))
		if d.from(0, 2) > 0 {
			plan = d.changedPlan(plan, len(order))
		}
		want := slowFits(order, men, plan)
		counts[want]++
		if fits, e := shop.Fits(order, men, plan); fits != want || e != api.OK {
			t.Fatalf("Fits(%v, %d, %v): %v, %d", order, men, plan, fits, e)
		}
	}
	if counts[true] < 5000 || counts[false] < 5000 {
		t.Errorf("plans and others: %v", counts)
	}
}

// P10.1, P10.3: long plans.
func TestLongPlans(t *testing.T) {
	plan := make([][]int, 1000000)
	plan[7], plan[999999] = day(0), day(1)
	if fits, e := shop.Fits(chain(2), 1, plan); !fits || e != api.OK {
		t.Errorf("Fits with a long plan: %v, %d", fits, e)
	}
	order := built(1, api.NoPiece)
	order[0].Brass, order[1].Ivory = 1, 1
	for _, x := range []struct {
		brass, ivory, want int
	}{{7, 0, 0}, {8, 0, 1}, {100000, 0, 99993}, {0, 100000, 0}} {
		s := api.ShopStore{Lots: []api.ShopLot{{Day: min(x.brass, x.ivory)}, {Day: max(x.brass, x.ivory), Brass: 1, Ivory: 1}}}
		if x.ivory > 0 {
			s.Lots[0].Brass = 1
		}
		if begin, e := shop.Begins(order, 1, plan, s); begin != x.want || e != api.OK {
			t.Errorf("Begins with a long plan and %v: %d, %d", s, begin, e)
		}
	}
	plan = append(plan, nil)
	if fits, e := shop.Fits(chain(2), 1, plan); fits || e != api.OK {
		t.Errorf("Fits with an empty day behind: %v, %d", fits, e)
	}
	if fits, e := shop.Fits(chain(2), 12, days(day(0), make([]int, 1000000), day(1))); fits || e != api.OK {
		t.Errorf("Fits with a long day: %v, %d", fits, e)
	}
}

// checkLeast checks a plan and its days against those that are known, and the level against the bounds.
func checkLeast(t *testing.T, order []api.ShopPiece, men, want int) {
	t.Helper()
	plan, e := shop.Plan(order, men)
	if e != api.OK || len(plan) != want || !slowFits(order, men, plan) {
		t.Fatalf("Plan(%v, %d): %v, %d, not %d days", order, men, plan, e, want)
	}
	days, level, e := shop.Least(order, men)
	if days != want || level != slices.Index(slowBounds(order, men), want) || e != api.OK {
		t.Fatalf("Least(%v, %d): %d, %d, %d, not %d days with %v", order, men, days, level, e, want, slowBounds(order, men))
	}
}

// P10.2
func TestLeast(t *testing.T) {
	for _, x := range []struct {
		order            []api.ShopPiece
		men, days, level int
	}{
		{shopOrder(), 2, 4, 0},
		{shopOrder(), 3, 4, 2},
		{shopOrder(), 4, 3, 1},
		{shopOrder(), 1, 7, 0},
		{shopOrder(), 5, 3, 1},
		{shopOrder(), 7, 3, 2},
		{shopOrder(), 6, 3, 2},
		{chain(1), 1, 1, 0},
		{chain(1), 12, 1, 0},
		{chain(12), 1, 12, 0},
		{chain(12), 2, 12, 11},
		{chain(12), 12, 12, 11},
		{star(12), 1, 12, 0},
		{star(12), 2, 7, 1},
		{star(12), 5, 4, 1},
		{star(12), 6, 3, 1},
		{star(12), 10, 3, 1},
		{star(12), 11, 2, 0},
		{star(12), 12, 2, 1},
		{loose(12), 1, 12, 0},
		{loose(12), 5, 3, 0},
		{loose(12), 12, 1, 0},
		// the longest way comes first
		{built(8, 8, 8, 8, 8, 6, 7, 8, api.NoPiece), 2, 5, 0},
		{built(2, 2, 3, 4, api.NoPiece, api.NoPiece, api.NoPiece), 2, 4, 0},
		{built(5, 4, 4, 4, 5, api.NoPiece), 3, 3, 1},
		{built(5, 4, 4, 4, 5, api.NoPiece), 2, 4, 1},
	} {
		checkLeast(t, x.order, x.men, x.days)
		if days, level, e := shop.Least(x.order, x.men); days != x.days || level != x.level || e != api.OK {
			t.Errorf("Least(%v, %d): %d, %d, %d", x.order, x.men, days, level, e)
		}
	}
}

// P10.2, P10.7: by all sets of pieces that can have been made behind each day.
func TestLeastAll(t *testing.T) {
	var d dice
	levels := map[int]int{}
	for i := range 1500 {
		count := d.from(1, 8)
		if i%15 == 0 {
			count = d.from(9, 12)
		}
		order, men := d.order(count), d.from(1, pick(&d, 3, 12))
		checkLeast(t, order, men, slowDays(order, men))
		_, level, _ := shop.Least(order, men)
		levels[min(level, 3)]++
	}
	for level, least := range []int{500, 100, 50, 50} {
		if levels[level] < least {
			t.Errorf("only %d have the level %d", levels[level], level)
		}
	}
}

// P10.2
func TestMen(t *testing.T) {
	for _, x := range []struct {
		order            []api.ShopPiece
		days, men, level int
		e                api.Errno
	}{
		{shopOrder(), 4, 2, 0, api.OK},
		{shopOrder(), 3, 4, 2, api.OK},
		{shopOrder(), 2, 0, 0, api.ErrNone},
		{shopOrder(), 1, 0, 0, api.ErrNone},
		{shopOrder(), 5, 2, 0, api.OK},
		{shopOrder(), 6, 2, 0, api.OK},
		{shopOrder(), 7, 1, 0, api.OK},
		{shopOrder(), 12, 1, 0, api.OK},
		{chain(1), 1, 1, 0, api.OK},
		{chain(1), 12, 1, 0, api.OK},
		{chain(12), 12, 1, 0, api.OK},
		{chain(12), 11, 0, 0, api.ErrNone},
		{chain(2), 1, 0, 0, api.ErrNone},
		{loose(12), 1, 12, 0, api.OK},
		{loose(12), 2, 6, 0, api.OK},
		{loose(12), 11, 2, 0, api.OK},
		{star(12), 2, 11, 1, api.OK},
		{star(12), 3, 6, 1, api.OK},
		{star(12), 4, 4, 1, api.OK},
		{star(12), 11, 2, 0, api.OK},
		{star(12), 12, 1, 0, api.OK},
		{star(12), 1, 0, 0, api.ErrNone},
		{built(5, 4, 4, 4, 5, api.NoPiece), 3, 3, 1, api.OK},
		{built(9, 9, 9, 9, 9, 9, 9, 9, 9, 10, api.NoPiece), 3, 9, 2, api.OK},
		{built(9, 9, 9, 9, 9, 9, 9, 9, 9, 10, api.NoPiece), 4, 5, 2, api.OK},
		{built(9, 9, 9, 9, 9, 9, 9, 9, 9, 10, api.NoPiece), 10, 2, 0, api.OK},
	} {
		if men, level, e := shop.Men(x.order, x.days); men != x.men || level != x.level || e != x.e {
			t.Errorf("Men(%v, %d): %d, %d, %d, not %d, %d, %d", x.order, x.days, men, level, e, x.men, x.level, x.e)
		}
	}
	for _, days := range append(numbersOff(1, 12), -7, 14, 100000) {
		for _, order := range [][]api.ShopPiece{chain(1), chain(12), shopOrder()} {
			if men, level, e := shop.Men(order, days); men != 0 || level != 0 || e != api.ErrShopMen {
				t.Errorf("Men for %d days: %d, %d, %d", days, men, level, e)
			}
		}
	}
}

// slowMen returns the least number of journeymen for whom there is a plan with at most so many days, and the level that proves it, unless there is none.
func slowMen(order []api.ShopPiece, days int) (men, level int, e api.Errno) {
	for men := 1; men <= 12; men++ {
		if slowDays(order, men) > days {
			continue
		}
		if men == 1 {
			return 1, 0, api.OK
		}
		return men, slices.IndexFunc(slowBounds(order, men-1), func(bound int) bool { return bound > days }), api.OK
	}
	return 0, 0, api.ErrNone
}

// P10.2: by all sets of pieces that can have been made behind each day.
func TestMenAll(t *testing.T) {
	var d dice
	several, none, higher := 0, 0, 0
	for range 3000 {
		order := d.order(d.from(1, 8))
		days := d.from(1, 1+len(order))
		men, level, e := slowMen(order, days)
		if m, l, f := shop.Men(order, days); m != men || l != level || f != e {
			t.Fatalf("Men(%v, %d): %d, %d, %d, not %d, %d, %d", order, days, m, l, f, men, level, e)
		}
		if men > 1 {
			several++
		}
		if e == api.ErrNone {
			none++
		}
		if level > 0 {
			higher++
		}
	}
	if several < 500 || none < 500 || higher < 50 {
		t.Errorf("only %d take several journeymen, %d are not done, %d have a level above 0", several, none, higher)
	}
}
