package shop_test

import (
	"math"
	"reflect"
	"slices"
	"testing"

	"octant/api"
	"octant/shop"
)

// input is what all functions are called with.
type input struct {
	order     []api.ShopPiece
	men, days int
	plan      [][]int
	store     api.ShopStore
	bar, cut  int
	lengths   []int
	hands     []api.ShopMan
	tasks     []int
}

// result is what any function returns.
type result struct {
	list          []int
	plan          [][]int
	fits          bool
	number, level int
	e             api.Errno
}

type call struct {
	name string
	do   func(in input) result
}

// menCalls are those of the functions with journeymen.
func menCalls() []call {
	return []call{
		{"Fits", func(in input) (r result) {
			r.fits, r.e = shop.Fits(in.order, in.men, in.plan)
			return r
		}},
		{"Plan", func(in input) (r result) {
			r.plan, r.e = shop.Plan(in.order, in.men)
			return r
		}},
		{"Least", func(in input) (r result) {
			r.number, r.level, r.e = shop.Least(in.order, in.men)
			return r
		}},
		{"Begins", func(in input) (r result) {
			r.number, r.e = shop.Begins(in.order, in.men, in.plan, in.store)
			return r
		}},
	}
}

// orderCalls are those of the functions with an order.
func orderCalls() []call {
	return append(menCalls(),
		call{"Check", func(in input) result { return result{e: shop.Check(in.order)} }},
		call{"Levels", func(in input) (r result) {
			r.list, r.e = shop.Levels(in.order)
			return r
		}},
		call{"Men", func(in input) (r result) {
			r.number, r.level, r.e = shop.Men(in.order, in.days)
			return r
		}})
}

func allCalls() []call {
	return append(orderCalls(),
		call{"Saw", func(in input) (r result) {
			r.list, r.number, r.e = shop.Saw(in.bar, in.cut, in.lengths)
			return r
		}},
		call{"Posts", func(in input) (r result) {
			r.list, r.number, r.e = shop.Posts(in.hands, in.tasks)
			return r
		}},
		call{"Lack", func(in input) (r result) {
			r.list, r.e = shop.Lack(in.hands, in.tasks)
			return r
		}})
}

func shopInput() input {
	return input{order: shopOrder(), men: 2, days: 4, plan: shopPlan(), store: shopStore(), bar: 20, cut: 1, lengths: []int{9, 6, 4, 12}, hands: shopHands(), tasks: []int{0, 1}}
}

// roomy returns a list with room behind it, so that an append to it would show.
func roomy[T any](l []T) []T {
	big := make([]T, len(l), len(l)+4)
	copy(big, l)
	return big
}

// someInputs returns that of the examples and others, all of whose lists have room behind them.
func someInputs() []input {
	lacking, broad := shopInput(), shopInput()
	lacking.tasks, lacking.bar, lacking.days, lacking.store = []int{1, 1, 0, 1}, 16, 3, api.ShopStore{}
	broad.order, broad.plan, broad.men, broad.tasks = loose(12), days(day(0, 1, 2, 3, 4), day(5, 6, 7, 8, 9), nil, day(10, 11)), 5, []int{1, 0}
	list := []input{shopInput(), lacking, broad}
	for i := range list {
		in := &list[i]
		in.order, in.plan, in.store.Lots = roomy(in.order), roomy(in.plan), roomy(in.store.Lots)
		in.lengths, in.hands, in.tasks = roomy(in.lengths), roomy(in.hands), roomy(in.tasks)
		for k := range in.plan {
			in.plan[k] = roomy(in.plan[k])
		}
	}
	return list
}

// behind returns what lies in, and behind, the lists of an input.
func behind(in input) []any {
	list := []any{
		in.order[:cap(in.order)], in.plan[:cap(in.plan)], in.store.Lots[:cap(in.store.Lots)],
		in.lengths[:cap(in.lengths)], in.hands[:cap(in.hands)], in.tasks[:cap(in.tasks)],
	}
	for _, day := range in.plan {
		list = append(list, day[:cap(day)])
	}
	return list
}

// P10.6: no call changes an argument, nor what lies behind it.
func TestArgumentsAreRead(t *testing.T) {
	for _, c := range allCalls() {
		for i, in := range someInputs() {
			c.do(in)
			if !reflect.DeepEqual(behind(in), behind(someInputs()[i])) {
				t.Errorf("%s changes its arguments: %v", c.name, in)
			}
		}
	}
}

// spoil changes all that lies in, and behind, a list.
func spoil[T any](wrong T, list []T) {
	list = list[:cap(list)]
	for i := range list {
		list[i] = wrong
	}
}

// spoilPlan changes all that a plan has.
func spoilPlan(plan [][]int) {
	for _, day := range plan {
		spoil(-77, day)
	}
	spoil(day(-77), plan)
}

// P10.6: results share no memory with arguments, nor with what another call returns.
func TestResultsAreNew(t *testing.T) {
	for _, c := range allCalls() {
		for i, in := range someInputs() {
			r, want := c.do(in), c.do(someInputs()[i])
			spoilPlan(in.plan)
			spoil(api.ShopPiece{Into: -77}, in.order)
			spoil(api.ShopLot{Day: -77}, in.store.Lots)
			spoil(-77, in.lengths)
			spoil(api.ShopMan{Skills: -77}, in.hands)
			spoil(-77, in.tasks)
			if !reflect.DeepEqual(r, want) {
				t.Errorf("%s: its result changes with its arguments: %v, not %v", c.name, r, want)
			}
			other := someInputs()[i]
			r = c.do(other)
			spoilPlan(r.plan)
			spoil(-77, r.list)
			if !reflect.DeepEqual(behind(other), behind(someInputs()[i])) {
				t.Errorf("%s: its arguments change with its result: %v", c.name, other)
			}
			if again := c.do(someInputs()[i]); !reflect.DeepEqual(again, want) {
				t.Errorf("%s: another result after a change of the first one: %v, not %v", c.name, again, want)
			}
		}
	}
}

// P10.6: the days of a plan that is returned share no memory with each other.
func TestDaysAreApart(t *testing.T) {
	for _, order := range validOrders() {
		for men := 1; men <= 12; men++ {
			want, _ := shop.Plan(order, men)
			for i := range want {
				plan, _ := shop.Plan(order, men)
				spoil(-77, plan[i])
				for k := range plan {
					if k != i && !slices.Equal(plan[k], want[k]) {
						t.Fatalf("Plan(%v, %d): the day %d changes with the day %d: %v", order, men, k, i, plan)
					}
				}
			}
		}
	}
}

// anyInput returns an input that may be valid or not.
func anyInput(d *dice) input {
	numbers := []int{math.MinInt, -100001, -1, 0, 1, 2, 3, 4, 5, 6, 7, 11, 12, 13, 63, 64, 1000, 1001, 10000, 10001, 65535, 65536, 100000, 100001, math.MaxInt}
	in := pick(d, someInputs()...)
	maybe := func(l ...*int) {
		for _, x := range l {
			if d.from(0, 29) == 0 {
				*x = pick(d, numbers...)
			}
		}
	}
	for i := range in.order {
		maybe(&in.order[i].Into, &in.order[i].Brass, &in.order[i].Ivory)
	}
	for i := range in.plan {
		for k := range in.plan[i] {
			maybe(&in.plan[i][k])
		}
		in.plan[i] = in.plan[i][:max(0, len(in.plan[i])-d.from(0, 20)/20)]
	}
	for i := range in.store.Lots {
		maybe(&in.store.Lots[i].Day, &in.store.Lots[i].Brass, &in.store.Lots[i].Ivory)
	}
	for i := range in.lengths {
		maybe(&in.lengths[i])
	}
	for i := range in.hands {
		maybe(&in.hands[i].Skills, &in.hands[i].Wage)
	}
	for i := range in.tasks {
		maybe(&in.tasks[i])
	}
	in.order = in.order[:len(in.order)-d.from(0, 9)/9]
	in.plan = in.plan[:len(in.plan)-d.from(0, 9)/9]
	maybe(&in.men, &in.days, &in.store.Brass, &in.store.Ivory, &in.bar, &in.cut)
	return in
}

// P1: no call panics, and no result comes with an error.
func TestAnyArguments(t *testing.T) {
	var d dice
	for range 20000 {
		in := anyInput(&d)
		for _, c := range allCalls() {
			if r := c.do(in); r.e != api.OK && !reflect.DeepEqual(r, result{e: r.e}) {
				t.Fatalf("%s with an error: %v", c.name, r)
			}
		}
	}
}

// P2: a call has the same result when it comes again, behind others.
func TestSameAgain(t *testing.T) {
	for _, c := range allCalls() {
		for i, in := range someInputs() {
			first := c.do(in)
			for _, other := range allCalls() {
				for _, x := range someInputs() {
					other.do(x)
				}
			}
			if again := c.do(someInputs()[i]); !reflect.DeepEqual(first, again) {
				t.Errorf("%s: %v, then %v", c.name, first, again)
			}
		}
	}
}

// R3: a nil list is as an empty one.
func TestNilIsEmpty(t *testing.T) {
	none := input{men: 1, days: 1, bar: 1}
	empty := none
	empty.order, empty.plan, empty.store.Lots = []api.ShopPiece{}, [][]int{}, []api.ShopLot{}
	empty.lengths, empty.hands, empty.tasks = []int{}, []api.ShopMan{}, []int{}
	for _, order := range [][]api.ShopPiece{nil, chain(2)} {
		none.order = order
		if order != nil {
			empty.order = order
		}
		for _, c := range allCalls() {
			a, b := c.do(none), c.do(empty)
			if a.list, b.list = append(day(), a.list...), append(day(), b.list...); !reflect.DeepEqual(a, b) {
				t.Errorf("%s: %v with nil lists, %v with empty ones", c.name, a, b)
			}
		}
	}
	for _, s := range []api.ShopStore{{}, {Lots: []api.ShopLot{}}} {
		for _, plan := range [][][]int{days(nil, day(0), nil, day(1)), days(day(), day(0), day(), day(1))} {
			if begin, e := shop.Begins(chain(2), 1, plan, s); begin != 0 || e != api.OK {
				t.Errorf("Begins with %v, %v: %d, %d", plan, s, begin, e)
			}
		}
	}
}

// least returns the fewest days of a plan.
func least(t *testing.T, order []api.ShopPiece, men int) int {
	t.Helper()
	days, _, e := shop.Least(order, men)
	if e != api.OK {
		t.Fatalf("Least(%v, %d): %d", order, men, e)
	}
	return days
}

// P10.7: the days of a plan are the bound of a level, and none is less than any bound.
func TestTheOrder(t *testing.T) {
	var d dice
	for range 5000 {
		order, men := d.order(d.from(1, 12)), d.from(1, 12)
		plan, e := shop.Plan(order, men)
		if e != api.OK || !slowFits(order, men, plan) {
			t.Fatalf("Plan(%v, %d): %v, %d", order, men, plan, e)
		}
		if bounds := slowBounds(order, men); len(plan) != slices.Max(bounds) {
			t.Fatalf("Plan(%v, %d): %v, with the bounds %v", order, men, plan, bounds)
		}
		if fits, e := shop.Fits(order, men, plan); !fits || e != api.OK {
			t.Fatalf("Fits(%v, %d, %v): %v, %d", order, men, plan, fits, e)
		}
	}
}

// withoutPiece returns an order without a piece into which nothing is built.
func withoutPiece(order []api.ShopPiece, piece int) []api.ShopPiece {
	fewer := slices.Delete(slices.Clone(order), piece, piece+1)
	for i := range fewer {
		if fewer[i].Into > piece {
			fewer[i].Into--
		}
	}
	return fewer
}

// P10.8: with a journeyman more, or a piece less, not more days are needed.
func TestMoreMenOrLessWork(t *testing.T) {
	var d dice
	sooner := 0
	for range 2000 {
		order := d.order(d.from(2, 12))
		for men := 1; men <= 12; men++ {
			days := least(t, order, men)
			if men < 12 && least(t, order, men+1) > days {
				t.Fatalf("%v takes %d journeymen %d days, one more %d", order, men, days, least(t, order, men+1))
			}
			for piece := range order {
				if slices.ContainsFunc(order, func(p api.ShopPiece) bool { return p.Into == piece }) {
					continue
				}
				fewer := withoutPiece(order, piece)
				if least(t, fewer, men) > days {
					t.Fatalf("%v takes %d journeymen %d days, %v takes %d", order, men, days, fewer, least(t, fewer, men))
				}
				if least(t, fewer, men) < days {
					sooner++
				}
			}
		}
	}
	if sooner < 1000 {
		t.Errorf("only %d are done sooner with a piece less", sooner)
	}
}

// P10.8: the days suffice for as many journeymen as Men says, not for one fewer.
func TestFewerMen(t *testing.T) {
	var d dice
	several := 0
	for range 5000 {
		order, days := d.order(d.from(1, 12)), d.from(1, 12)
		men, _, e := shop.Men(order, days)
		if e == api.ErrNone {
			if least(t, order, 12) <= days {
				t.Fatalf("Men(%v, %d): %d", order, days, e)
			}
			continue
		}
		if e != api.OK || least(t, order, men) > days {
			t.Fatalf("Men(%v, %d): %d, %d", order, days, men, e)
		}
		if men > 1 {
			several++
			if least(t, order, men-1) <= days {
				t.Fatalf("Men(%v, %d): %d, but one fewer takes %d days", order, days, men, least(t, order, men-1))
			}
		}
	}
	if several < 1000 {
		t.Errorf("only %d take several journeymen", several)
	}
}

// P10.9: a plan can begin on the day that is told, on each later day, and on none before it.
func TestTheStore(t *testing.T) {
	var d dice
	later := 0
	for range 3000 {
		order, men := d.order(d.from(1, 12)), d.from(1, 12)
		plan, e := shop.Plan(order, men)
		if d.from(0, 1) == 0 {
			plan = d.plan(order, men)
		}
		s := d.store()
		begin, f := shop.Begins(order, men, plan, s)
		if e != api.OK || f != api.OK && f != api.ErrNone {
			t.Fatalf("%v, %v, %v: %d, %d", order, plan, s, e, f)
		}
		for day := range 50 {
			if want := f == api.OK && day >= begin; slowCanBegin(order, plan, s, day) != want {
				t.Fatalf("Begins(%v, %d, %v, %v): %d, %d, but on the day %d it can: %v", order, men, plan, s, begin, f, day, !want)
			}
		}
		if begin > 0 {
			later++
		}
	}
	if later < 300 {
		t.Errorf("only %d begin later", later)
	}
}

// P10.10: with a longer bar, or one more length, not less is used.
func TestTheBar(t *testing.T) {
	var d dice
	more := 0
	for range 3000 {
		most := pick(&d, 9, 100, 9000)
		bar, cut, lengths := d.from(1, most), d.from(0, most/9), d.numbers(d.from(1, 15), most)
		list, used, e := shop.Saw(bar, cut, lengths)
		if e != api.OK || used > bar || used != slowUse(cut, lengths, list) {
			t.Fatalf("Saw(%d, %d, %v): %v, %d, %d", bar, cut, lengths, list, used, e)
		}
		_, longer, e := shop.Saw(bar+d.from(1, 9), cut, lengths)
		_, further, f := shop.Saw(bar, cut, slices.Insert(slices.Clone(lengths), d.from(0, len(lengths)), d.from(1, most)))
		if e != api.OK || f != api.OK || longer < used || further < used {
			t.Fatalf("Saw(%d, %d, %v) uses %d, a longer bar %d, with another length %d; %d, %d", bar, cut, lengths, used, longer, further, e, f)
		}
		if longer > used || further > used {
			more++
		}
	}
	if more < 500 {
		t.Errorf("only in %d more is used", more)
	}
}

// P10.11: either there are posts, or some tasks lack; these are such.
func TestThePosts(t *testing.T) {
	var d dice
	counts := map[bool]int{}
	for range 3000 {
		men, tasks := d.team(8)
		list, wages, e := shop.Posts(men, tasks)
		lack, f := shop.Lack(men, tasks)
		posts := e == api.OK && f == api.ErrNone && arePosts(men, tasks, list) && wages == wagesOf(men, list)
		lacks := e == api.ErrNone && f == api.OK && slowLacks(men, tasks, lack) && slices.IsSorted(lack)
		if posts == lacks {
			t.Fatalf("%v, %v: %v, %d, %d; %v, %d", men, tasks, list, wages, e, lack, f)
		}
		counts[posts]++
		for i := range lack {
			// each of the fewest is needed: without it there are posts
			if _, _, e := shop.Posts(men, tasksOf(tasks, slices.Delete(slices.Clone(lack), i, i+1))); e != api.OK {
				t.Fatalf("Lack(%v, %v): %v, but fewer lack, too", men, tasks, lack)
			}
		}
	}
	if counts[true] < 500 || counts[false] < 500 {
		t.Errorf("posts, or tasks that lack: %v", counts)
	}
}

// tasksOf returns those of which the numbers are given.
func tasksOf(tasks, numbers []int) []int {
	var list []int
	for _, number := range numbers {
		list = append(list, tasks[number])
	}
	return list
}
