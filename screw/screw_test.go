package screw_test

import (
	"math"
	"reflect"
	"slices"
	"testing"

	"octant/api"
	"octant/screw"
)

// shopLathe, shopSet and shopReadings are those of the document's examples.
func shopLathe() api.ScrewLathe {
	return api.ScrewLathe{Wheels: []int{20, 30, 40, 50}, Num: 1, Den: 4}
}

func shopSet() api.ScrewSet { return api.ScrewSet{Turns: []int{1, 2}, Most: 100} }

func shopReadings() []api.ScrewReading {
	return []api.ScrewReading{
		{A: 0, I: 1, B: 1, J: 1, Value: 10, Wrong: 2},
		{A: 1, I: 2, B: 0, J: 1, Value: 5, Wrong: 1},
		{A: 0, I: 1, B: 0, J: 0, Value: 20, Wrong: 5},
	}
}

// furtherReadings returns the ones above and the further one, with which there is no truth.
func furtherReadings() []api.ScrewReading {
	return append(shopReadings(), api.ScrewReading{A: 1, I: 1, B: 1, J: 0, Value: 0, Wrong: 1})
}

func tenWheels() []int { return []int{10, 20, 30, 40, 50, 60, 70, 80, 90, 200} }

func validLathes() []api.ScrewLathe {
	return []api.ScrewLathe{
		shopLathe(),
		{Wheels: []int{10, 10}, Num: 1, Den: 1},
		{Wheels: []int{200, 200}, Num: 1000, Den: 1000},
		{Wheels: tenWheels(), Num: 1000, Den: 1},
		{Wheels: []int{10, 200, 200}, Num: 1, Den: 1000},
	}
}

func invalidLathes() []api.ScrewLathe {
	return []api.ScrewLathe{
		{},
		{Num: 1, Den: 4},
		{Wheels: []int{}, Num: 1, Den: 4},
		{Wheels: []int{20}, Num: 1, Den: 4},
		{Wheels: append(tenWheels(), 200), Num: 1, Den: 4},
		{Wheels: []int{9, 20}, Num: 1, Den: 4},
		{Wheels: []int{0, 20}, Num: 1, Den: 4},
		{Wheels: []int{-20, 20}, Num: 1, Den: 4},
		{Wheels: []int{math.MinInt, 20}, Num: 1, Den: 4},
		{Wheels: []int{20, 201}, Num: 1, Den: 4},
		{Wheels: []int{20, math.MaxInt}, Num: 1, Den: 4},
		{Wheels: []int{30, 20}, Num: 1, Den: 4},
		{Wheels: []int{20, 30, 29}, Num: 1, Den: 4},
		{Wheels: []int{20, 40, 30, 50}, Num: 1, Den: 4},
		{Wheels: []int{20, 30}, Num: 0, Den: 4},
		{Wheels: []int{20, 30}, Num: -1, Den: 4},
		{Wheels: []int{20, 30}, Num: 1001, Den: 4},
		{Wheels: []int{20, 30}, Num: math.MaxInt, Den: 4},
		{Wheels: []int{20, 30}, Num: 1, Den: 0},
		{Wheels: []int{20, 30}, Num: 1, Den: -4},
		{Wheels: []int{20, 30}, Num: 1, Den: 1001},
		{Wheels: []int{20, 30}, Num: 1, Den: math.MinInt},
	}
}

// P2.1
func TestCheck(t *testing.T) {
	for _, l := range validLathes() {
		if e := screw.Check(l); e != api.OK {
			t.Errorf("Check(%v): %d", l, e)
		}
	}
	for _, l := range invalidLathes() {
		if e := screw.Check(l); e != api.ErrScrew {
			t.Errorf("Check(%v): %d", l, e)
		}
	}
}

// P2.1: the error of the lathe comes first, with all other arguments wrong or right, and no result comes with it.
func TestLatheFirst(t *testing.T) {
	for _, l := range invalidLathes() {
		for _, c := range latheCalls() {
			for _, in := range []input{
				{lathe: l},
				{lathe: l, gears: []int{0, 1}, num: 1, den: 6},
				{lathe: l, gears: []int{0, 0}, num: 1001, den: 0},
			} {
				if r := c.do(in); !reflect.DeepEqual(r, result{e: api.ErrScrew}) {
					t.Errorf("%s with %v: %v", c.name, l, r)
				}
			}
		}
	}
}

// P2.1
func TestPitch(t *testing.T) {
	big := api.ScrewLathe{Wheels: []int{10, 10, 199, 200}, Num: 1000, Den: 1}
	for _, x := range []struct {
		l        api.ScrewLathe
		gears    []int
		num, den int
		e        api.Errno
	}{
		{shopLathe(), []int{0, 1}, 1, 6, api.OK},
		{shopLathe(), []int{1, 0}, 3, 8, api.OK},
		{shopLathe(), []int{2, 0}, 1, 2, api.OK},
		{shopLathe(), []int{0, 1, 2, 3}, 2, 15, api.OK},
		{shopLathe(), []int{0, 2, 1, 3}, 3, 40, api.OK},
		{shopLathe(), []int{3, 2, 1, 0}, 15, 32, api.OK},
		{big, []int{0, 1}, 1000, 1, api.OK},
		{big, []int{0, 1, 2, 3}, 995, 1, api.OK},
		{big, []int{2, 0, 3, 1}, 398000, 1, api.OK},
		{big, []int{0, 2, 1, 3}, 500, 199, api.OK},
		{api.ScrewLathe{Wheels: []int{10, 11, 199, 200}, Num: 1, Den: 1000}, []int{0, 2, 1, 3}, 11, 3980000, api.OK},
		{shopLathe(), []int{0, 0}, 0, 0, api.ErrScrewGears},
		{shopLathe(), nil, 0, 0, api.ErrScrewGears},
		{shopLathe(), []int{}, 0, 0, api.ErrScrewGears},
		{shopLathe(), []int{0}, 0, 0, api.ErrScrewGears},
		{shopLathe(), []int{0, 1, 2}, 0, 0, api.ErrScrewGears},
		{shopLathe(), []int{0, 1, 2, 3, 0}, 0, 0, api.ErrScrewGears},
		{api.ScrewLathe{Wheels: tenWheels(), Num: 1, Den: 4}, []int{0, 1, 2, 3, 4, 5}, 0, 0, api.ErrScrewGears},
		{shopLathe(), []int{0, 4}, 0, 0, api.ErrScrewGears},
		{shopLathe(), []int{-1, 0}, 0, 0, api.ErrScrewGears},
		{shopLathe(), []int{math.MaxInt, 0}, 0, 0, api.ErrScrewGears},
		{shopLathe(), []int{0, math.MinInt}, 0, 0, api.ErrScrewGears},
		{shopLathe(), []int{0, 1, 2, 4}, 0, 0, api.ErrScrewGears},
		{shopLathe(), []int{0, 1, 2, 0}, 0, 0, api.ErrScrewGears},
		{shopLathe(), []int{0, 1, 0, 3}, 0, 0, api.ErrScrewGears},
		{shopLathe(), []int{0, 1, 2, 1}, 0, 0, api.ErrScrewGears},
		{shopLathe(), []int{0, 1, 1, 3}, 0, 0, api.ErrScrewGears},
		{shopLathe(), []int{0, 1, 3, 3}, 0, 0, api.ErrScrewGears},
		{shopLathe(), []int{1, 1, 2, 3}, 0, 0, api.ErrScrewGears},
	} {
		if num, den, e := screw.Pitch(x.l, x.gears); num != x.num || den != x.den || e != x.e {
			t.Errorf("Pitch(%v, %v): %d, %d, %d", x.l, x.gears, num, den, e)
		}
	}
}

// P2.2
func TestCut(t *testing.T) {
	for _, x := range []struct {
		l        api.ScrewLathe
		num, den int
		want     []int
		e        api.Errno
	}{
		{shopLathe(), 1, 6, []int{0, 1}, api.OK},
		{shopLathe(), 160, 960, []int{0, 1}, api.OK}, // a pitch need not be in lowest terms
		{shopLathe(), 2, 15, []int{0, 1, 2, 3}, api.OK},
		{shopLathe(), 3, 40, []int{0, 2, 1, 3}, api.OK},
		{shopLathe(), 1, 15, nil, api.ErrNone},
		{shopLathe(), 1, 4, nil, api.ErrNone}, // no wheel drives itself
		{api.ScrewLathe{Wheels: []int{20, 20}, Num: 1, Den: 4}, 1, 4, []int{0, 1}, api.OK},
		{api.ScrewLathe{Wheels: []int{20, 30, 30}, Num: 1, Den: 4}, 1, 4, []int{1, 2}, api.OK},
		// two wheels come before four, and of the same number the first ones
		{api.ScrewLathe{Wheels: []int{20, 20, 40, 80}, Num: 1, Den: 1}, 1, 2, []int{0, 2}, api.OK},
		{api.ScrewLathe{Wheels: []int{10, 20, 30, 60, 90}, Num: 1, Den: 1}, 1, 1, []int{0, 1, 3, 2}, api.OK},
		{api.ScrewLathe{Wheels: []int{10, 20, 40, 80}, Num: 1, Den: 1}, 2, 1, []int{1, 0}, api.OK},
		{api.ScrewLathe{Wheels: []int{10, 10, 199, 200}, Num: 500, Den: 199}, 1000, 1, []int{2, 0, 3, 1}, api.OK},
		{api.ScrewLathe{Wheels: []int{10, 200}, Num: 1000, Den: 1}, 50, 1, []int{0, 1}, api.OK},
		{api.ScrewLathe{Wheels: []int{10, 200}, Num: 1000, Den: 1}, 1, 1000, nil, api.ErrNone},
		{api.ScrewLathe{Wheels: []int{10, 10}, Num: 7, Den: 1000}, 7, 1000, []int{0, 1}, api.OK},
		{shopLathe(), 0, 6, nil, api.ErrScrewWant},
		{shopLathe(), 1, 0, nil, api.ErrScrewWant},
		{shopLathe(), -1, -6, nil, api.ErrScrewWant},
		{shopLathe(), 1001, 1, nil, api.ErrScrewWant},
		{shopLathe(), 1, 1001, nil, api.ErrScrewWant},
		{shopLathe(), 1001, 6006, nil, api.ErrScrewWant},
		{shopLathe(), math.MaxInt, 1, nil, api.ErrScrewWant},
		{shopLathe(), 1, math.MinInt, nil, api.ErrScrewWant},
	} {
		if l, e := screw.Cut(x.l, x.num, x.den); !slices.Equal(l, x.want) || e != x.e {
			t.Errorf("Cut(%v, %d, %d): %v, %d", x.l, x.num, x.den, l, e)
		}
	}
}

// P2.2
func TestNearest(t *testing.T) {
	for _, x := range []struct {
		l        api.ScrewLathe
		num, den int
		want     []int
		e        api.Errno
	}{
		{shopLathe(), 1, 15, []int{0, 2, 1, 3}, api.OK},
		{shopLathe(), 1, 10, []int{0, 3}, api.OK},
		{shopLathe(), 1, 6, []int{0, 1}, api.OK},
		{shopLathe(), 1000, 1, []int{2, 0, 3, 1}, api.OK},
		{shopLathe(), 1, 1000, []int{0, 2, 1, 3}, api.OK},
		// 1 by 2 and 2 by 1 differ by as much from 5 by 4: the first ones
		{api.ScrewLathe{Wheels: []int{20, 40}, Num: 1, Den: 1}, 5, 4, []int{0, 1}, api.OK},
		{api.ScrewLathe{Wheels: []int{20, 40}, Num: 1, Den: 1}, 6, 5, []int{0, 1}, api.OK},
		{api.ScrewLathe{Wheels: []int{20, 40}, Num: 1, Den: 1}, 4, 3, []int{1, 0}, api.OK},
		// it is the difference that counts, not the ratio: 1 by 1 less than 2, 2 by 1 more
		{api.ScrewLathe{Wheels: []int{20, 40}, Num: 2, Den: 1}, 2, 1, []int{0, 1}, api.OK},
		{api.ScrewLathe{Wheels: []int{199, 200}, Num: 1000, Den: 1000}, 1, 1, []int{0, 1}, api.OK},
		{api.ScrewLathe{Wheels: []int{199, 200}, Num: 1000, Den: 1000}, 1000, 999, []int{1, 0}, api.OK},
		{shopLathe(), 0, 1, nil, api.ErrScrewWant},
		{shopLathe(), 1, 0, nil, api.ErrScrewWant},
		{shopLathe(), -1, 1, nil, api.ErrScrewWant},
		{shopLathe(), 1001, 1, nil, api.ErrScrewWant},
		{shopLathe(), 1, 1001, nil, api.ErrScrewWant},
		{shopLathe(), math.MinInt, math.MaxInt, nil, api.ErrScrewWant},
	} {
		if l, e := screw.Nearest(x.l, x.num, x.den); !slices.Equal(l, x.want) || e != x.e {
			t.Errorf("Nearest(%v, %d, %d): %v, %d", x.l, x.num, x.den, l, e)
		}
	}
}

// P2.1, P2.2
func TestLatheAll(t *testing.T) {
	var d dice
	for range 600 {
		l := d.lathe()
		gears := slowGears(len(l.Wheels))
		one := gears[d.from(0, len(gears)-1)]
		p := slowPitch(l, one)
		num, den, e := screw.Pitch(l, one)
		if p.Num().Int64() != int64(num) || p.Denom().Int64() != int64(den) || e != api.OK {
			t.Fatalf("Pitch(%v, %v): %d, %d, %d, not %v", l, one, num, den, e, p)
		}
		if max(num, den) > api.ScrewPitch || d.from(0, 1) == 0 {
			num, den = d.from(1, 20), d.from(1, 20)
		}
		if d.from(0, 5) == 0 {
			num, den = d.from(1, api.ScrewPitch), d.from(1, api.ScrewPitch)
		}
		want, exact := slowNearest(l, num, den)
		if got, e := screw.Nearest(l, num, den); !slices.Equal(got, want) || e != api.OK {
			t.Fatalf("Nearest(%v, %d, %d): %v, %d, not %v", l, num, den, got, e, want)
		}
		e = api.OK
		if !exact {
			want, e = nil, api.ErrNone
		}
		if got, f := screw.Cut(l, num, den); !slices.Equal(got, want) || f != e {
			t.Fatalf("Cut(%v, %d, %d): %v, %d, not %v, %d", l, num, den, got, f, want, e)
		}
	}
}

// P2.2: as many wheels as there can be, with many teeth.
func TestLatheMost(t *testing.T) {
	l := api.ScrewLathe{Wheels: []int{151, 157, 163, 167, 173, 179, 181, 191, 193, 199}, Num: 997, Den: 991}
	for _, want := range [][2]int{{1000, 999}, {999, 1000}, {983, 977}, {1, 1}, {1000, 1}, {1, 1000}} {
		gears, exact := slowNearest(l, want[0], want[1])
		if got, e := screw.Nearest(l, want[0], want[1]); exact || !slices.Equal(got, gears) || e != api.OK {
			t.Errorf("Nearest to %v: %v, %d, not %v", want, got, e, gears)
		}
		if got, e := screw.Cut(l, want[0], want[1]); got != nil || e != api.ErrNone {
			t.Errorf("Cut of %v: %v, %d", want, got, e)
		}
	}
}

func invalidSets() []api.ScrewSet {
	return []api.ScrewSet{
		{},
		{Most: 100},
		{Turns: []int{}, Most: 100},
		{Turns: []int{1, 1, 1, 1, 1}, Most: 100},
		{Turns: []int{0}, Most: 100},
		{Turns: []int{1, -1}, Most: 100},
		{Turns: []int{1, 9}, Most: 100},
		{Turns: []int{math.MaxInt}, Most: 100},
		{Turns: []int{math.MinInt}, Most: 100},
		{Turns: []int{1, 2}, Most: -1},
		{Turns: []int{1, 2}, Most: 100001},
		{Turns: []int{1, 2}, Most: math.MaxInt},
		{Turns: []int{1, 2}, Most: math.MinInt},
	}
}

// invalidReadings returns readings none of which is one of shopSet's screws.
func invalidReadings() []api.ScrewReading {
	return []api.ScrewReading{
		{A: 2}, {A: -1}, {A: math.MaxInt}, {A: math.MinInt},
		{B: 2}, {B: -1}, {B: math.MaxInt}, {B: math.MinInt},
		{I: 2}, {I: -1}, {I: math.MaxInt}, {I: math.MinInt},
		{J: 2}, {J: -1}, {A: 1, I: 3}, {B: 1, J: 3}, {B: 1, J: math.MaxInt}, {B: 1, J: math.MinInt},
		{Value: 200001}, {Value: -200001}, {Value: math.MaxInt}, {Value: math.MinInt},
		{Wrong: -1}, {Wrong: 100001}, {Wrong: math.MaxInt}, {Wrong: math.MinInt},
	}
}

// P2.3: the error of the screws comes first, then the one of the readings, and no result comes with them.
func TestSetFirst(t *testing.T) {
	for _, c := range setCalls() {
		for _, s := range invalidSets() {
			for _, l := range [][]api.ScrewReading{nil, shopReadings(), invalidReadings()} {
				if r := c.do(input{set: s, readings: l}); !reflect.DeepEqual(r, result{e: api.ErrScrewSet}) {
					t.Errorf("%s with %v: %v", c.name, s, r)
				}
			}
		}
		for _, x := range invalidReadings() {
			for _, l := range [][]api.ScrewReading{{x}, append(shopReadings(), x), append(furtherReadings(), x)} {
				for _, errors := range [][][]int{nil, {{0, 20}, {0, 10, 25}}} {
					if r := c.do(input{set: shopSet(), readings: l, errors: errors}); !reflect.DeepEqual(r, result{e: api.ErrScrewRead}) {
						t.Errorf("%s with %v: %v", c.name, x, r)
					}
				}
			}
		}
		many := make([]api.ScrewReading, 25) // each of them a reading
		if r := c.do(input{set: shopSet(), readings: many}); r.e != api.ErrScrewRead {
			t.Errorf("%s with 25 readings: %v", c.name, r)
		}
		if r := c.do(input{set: shopSet(), readings: many[1:]}); r.e == api.ErrScrewRead {
			t.Errorf("%s with 24 readings: %v", c.name, r)
		}
	}
}

// P2.3
func TestTruth(t *testing.T) {
	for _, x := range []struct {
		l      []api.ScrewReading
		errors [][]int
		want   bool
	}{
		{nil, [][]int{{0, 0}, {0, 0, 0}}, true},
		{nil, [][]int{{0, 100}, {0, -100, 100}}, true},
		{nil, [][]int{{0, 101}, {0, 0, 0}}, false},
		{nil, [][]int{{0, 0}, {0, 0, -101}}, false},
		{nil, [][]int{{0, math.MaxInt}, {0, 0, math.MinInt}}, false},
		{nil, [][]int{{1, 0}, {0, 0, 0}}, false},
		{nil, [][]int{{0, 0}, {-1, 0, 0}}, false},
		{nil, [][]int{{0, 0}, {0, 0}}, false},
		{nil, [][]int{{0, 0, 0}, {0, 0, 0}}, false},
		{nil, [][]int{{0, 0}, {}}, false},
		{nil, [][]int{{0, 0}, nil}, false},
		{nil, [][]int{{0, 0}}, false},
		{nil, [][]int{{0, 0}, {0, 0, 0}, {0, 0}}, false},
		{nil, [][]int{}, false},
		{nil, nil, false},
		{shopReadings(), [][]int{{0, 20}, {0, 10, 25}}, true},
		{shopReadings(), [][]int{{0, 25}, {0, 17, 31}}, true},
		{shopReadings(), [][]int{{0, 15}, {0, 3, 19}}, true},
		{shopReadings(), [][]int{{0, 20}, {0, 7, 25}}, false},
		{shopReadings(), [][]int{{0, 20}, {0, 13, 25}}, false},
		{shopReadings(), [][]int{{0, 20}, {0, 10, 27}}, false},
		{shopReadings(), [][]int{{0, 26}, {0, 16, 31}}, false},
		{shopReadings(), [][]int{{0, 20}, {0, 10}}, false},
		{furtherReadings(), [][]int{{0, 20}, {0, 10, 25}}, false},
		{[]api.ScrewReading{{A: 0, I: 1, B: 0, J: 1, Value: 3, Wrong: 3}}, [][]int{{0, 20}, {0, 10, 25}}, true},
		{[]api.ScrewReading{{A: 0, I: 1, B: 0, J: 1, Value: -4, Wrong: 3}}, [][]int{{0, 20}, {0, 10, 25}}, false},
		{[]api.ScrewReading{{A: 0, B: 1, Value: 4, Wrong: 3}}, [][]int{{0, 20}, {0, 10, 25}}, false},
		{[]api.ScrewReading{{Value: 200000, Wrong: 100000}}, [][]int{{0, 20}, {0, 10, 25}}, false},
	} {
		if yes, e := screw.Truth(shopSet(), x.l, x.errors); yes != x.want || e != api.OK {
			t.Errorf("Truth(%v, %v): %v, %d", x.l, x.errors, yes, e)
		}
	}
}

// farthest returns readings between the farthest errors that screws can have.
func farthest() (api.ScrewSet, []api.ScrewReading) {
	s := api.ScrewSet{Turns: []int{8, 1, 1, 8}, Most: 100000}
	return s, []api.ScrewReading{{A: 0, I: 8, B: 3, J: 8, Value: 200000, Wrong: 0}, {A: 1, I: 1, B: 2, J: 1, Value: -200000, Wrong: 100000}}
}

// P2.3
func TestSpans(t *testing.T) {
	zero := api.Span{}
	for _, x := range []struct {
		s    api.ScrewSet
		l    []api.ScrewReading
		want [][]api.Span
		e    api.Errno
	}{
		{shopSet(), shopReadings(), [][]api.Span{{zero, {Low: 15, High: 25}}, {zero, {Low: 3, High: 17}, {Low: 19, High: 31}}}, api.OK},
		{shopSet(), furtherReadings(), nil, api.ErrNone},
		{shopSet(), nil, [][]api.Span{{zero, {Low: -100, High: 100}}, {zero, {Low: -100, High: 100}, {Low: -100, High: 100}}}, api.OK},
		{api.ScrewSet{Turns: []int{1}}, nil, [][]api.Span{{zero, zero}}, api.OK},
		{api.ScrewSet{Turns: []int{1}}, []api.ScrewReading{{I: 1, Value: 1}}, nil, api.ErrNone},
		{shopSet(), []api.ScrewReading{{I: 1, Value: 101}}, nil, api.ErrNone},
		{shopSet(), []api.ScrewReading{{I: 1, Value: 101, Wrong: 1}}, [][]api.Span{{zero, {Low: 100, High: 100}}, {zero, {Low: -100, High: 100}, {Low: -100, High: 100}}}, api.OK},
		{shopSet(), []api.ScrewReading{{B: 1, J: 2, Value: 98, Wrong: 1}}, [][]api.Span{{zero, {Low: -100, High: 100}}, {zero, {Low: -100, High: 100}, {Low: -99, High: -97}}}, api.OK},
		// of an error with itself, and of two beginnings
		{api.ScrewSet{Turns: []int{1}, Most: 9}, []api.ScrewReading{{I: 1, J: 1, Value: 5, Wrong: 5}}, [][]api.Span{{zero, {Low: -9, High: 9}}}, api.OK},
		{api.ScrewSet{Turns: []int{1}, Most: 9}, []api.ScrewReading{{I: 1, J: 1, Value: 5, Wrong: 4}}, nil, api.ErrNone},
		{api.ScrewSet{Turns: []int{1}, Most: 100000}, []api.ScrewReading{{I: 1, J: 1, Value: -1}}, nil, api.ErrNone},
		{shopSet(), []api.ScrewReading{{B: 1, Value: 1}}, nil, api.ErrNone},
		{shopSet(), []api.ScrewReading{{B: 1, Value: -1}}, nil, api.ErrNone},
		// two readings that differ by just too much, from the one side and from the other one
		{api.ScrewSet{Turns: []int{1, 1}, Most: 100000}, []api.ScrewReading{{I: 1, B: 1, J: 1, Value: 7, Wrong: 3}, {I: 1, B: 1, J: 1, Value: 14, Wrong: 3}}, nil, api.ErrNone},
		{api.ScrewSet{Turns: []int{1, 1}, Most: 100000}, []api.ScrewReading{{I: 1, B: 1, J: 1, Value: 7, Wrong: 3}, {A: 1, I: 1, J: 1, Value: -13, Wrong: 3}}, [][]api.Span{{zero, {Low: -99990, High: 100000}}, {zero, {Low: -100000, High: 99990}}}, api.OK},
	} {
		if l, e := screw.Spans(x.s, x.l); !reflect.DeepEqual(l, x.want) || e != x.e {
			t.Errorf("Spans(%v, %v): %v, %d", x.s, x.l, l, e)
		}
	}
	s, l := farthest()
	spans, e := screw.Spans(s, l)
	if e != api.OK || spans[0][8] != (api.Span{Low: 100000, High: 100000}) || spans[3][8] != (api.Span{Low: -100000, High: -100000}) {
		t.Errorf("Spans of the farthest: %v, %d", spans, e)
	}
	if e != api.OK || spans[1][1] != (api.Span{Low: -100000, High: 0}) || spans[2][1] != (api.Span{Low: 0, High: 100000}) {
		t.Errorf("Spans of the farthest: %v, %d", spans, e)
	}
}

// P2.3
func TestSuspects(t *testing.T) {
	for _, x := range []struct {
		s    api.ScrewSet
		l    []api.ScrewReading
		want []int
		e    api.Errno
	}{
		{shopSet(), furtherReadings(), []int{0, 2, 3}, api.OK},
		{shopSet(), shopReadings(), nil, api.ErrNone},
		{shopSet(), nil, nil, api.ErrNone},
		{shopSet(), []api.ScrewReading{{I: 1, Value: 101}}, []int{0}, api.OK},
		// two that are wrong each by itself, so that none alone may be wrong
		{shopSet(), []api.ScrewReading{{Value: 1}, {Value: -1}}, nil, api.OK},
		{shopSet(), []api.ScrewReading{{Value: 1}, {Value: 1}}, nil, api.OK},
		{shopSet(), []api.ScrewReading{{I: 1, Value: 1}, {I: 1, Value: 2}, {I: 1, Value: 2}}, []int{0}, api.OK},
		{shopSet(), []api.ScrewReading{{I: 1, Value: 1}, {I: 1, Value: 2}, {I: 1, Value: 3}}, nil, api.OK},
		{shopSet(), []api.ScrewReading{{I: 1, Value: 1}, {I: 1, Value: 2, Wrong: 1}, {I: 1, Value: 3}}, []int{0, 2}, api.OK},
	} {
		if l, e := screw.Suspects(x.s, x.l); !slices.Equal(l, x.want) || e != x.e {
			t.Errorf("Suspects(%v, %v): %v, %d", x.s, x.l, l, e)
		}
	}
}

// P2.3
func TestScrewsAll(t *testing.T) {
	var d dice
	found, none, suspect := 0, 0, 0
	for range 1500 {
		s := d.set()
		l := d.readings(s, 6)
		want := slowSpans(s, l)
		spans, e := screw.Spans(s, l)
		if !reflect.DeepEqual(spans, want) || (e == api.OK) != (want != nil) || e != api.OK && e != api.ErrNone {
			t.Fatalf("Spans(%v, %v): %v, %d, not %v", s, l, spans, e, want)
		}
		suspects, f := screw.Suspects(s, l)
		if want != nil {
			if found++; suspects != nil || f != api.ErrNone {
				t.Fatalf("Suspects(%v, %v): %v, %d", s, l, suspects, f)
			}
			continue
		}
		list := slowSuspects(s, l)
		if none++; len(list) > 0 {
			suspect++
		}
		if !slices.Equal(suspects, list) || f != api.OK {
			t.Fatalf("Suspects(%v, %v): %v, %d, not %v", s, l, suspects, f, list)
		}
	}
	if found < 500 || none < 100 || suspect < 50 {
		t.Errorf("%d with a truth, %d without, %d with suspects", found, none, suspect)
	}
}

// chain returns 24 readings, each between two errors that follow each other, from the last one to the first one if back; and the last error.
func chain(value, wrong int, back bool) (s api.ScrewSet, l []api.ScrewReading) {
	s = api.ScrewSet{Turns: []int{6, 6, 6, 6}, Most: api.ScrewMost}
	at := [2]int{0, 0}
	for i := range 24 {
		next := [2]int{i % 4, i/4 + 1}
		l = append(l, api.ScrewReading{A: next[0], I: next[1], B: at[0], J: at[1], Value: value, Wrong: wrong})
		at = next
	}
	if back {
		slices.Reverse(l)
	}
	return s, l
}

// P2.3: what one reading says goes on to the farthest error, over as many as there can be, whatever the order of the readings.
func TestChain(t *testing.T) {
	for _, back := range []bool{false, true} {
		s, l := chain(1000, 10, back)
		spans, e := screw.Spans(s, l)
		if e != api.OK {
			t.Fatalf("Spans of a chain: %v, %d", spans, e)
		}
		for i := range 24 {
			want := api.Span{Low: 990 * (i + 1), High: 1010 * (i + 1)}
			if got := spans[i%4][i/4+1]; got != want {
				t.Errorf("the error %d of the chain: %v, not %v", i, got, want)
			}
		}
	}
	s, l := chain(5000, 0, true) // 24 times 5000 are more than the most
	if spans, e := screw.Spans(s, l); spans != nil || e != api.ErrNone {
		t.Errorf("Spans of a chain that is too long: %v, %d", spans, e)
	}
}

// P2.3: readings in a ring have a truth just if they can come to 0 together; otherwise each of them may be wrong.
func TestRing(t *testing.T) {
	for _, back := range []bool{false, true} {
		for value, wrong := range []int{0, 1, 2} {
			s, l := chain(value, wrong, back)
			at := 0
			if back {
				at = 23
			}
			l[at].B, l[at].J = 3, 6 // the last error, no longer the beginning
			if _, e := screw.Spans(s, l); e != api.OK {
				t.Errorf("a ring of %d, wrong by %d: %d", value, wrong, e)
			}
			l[at].Value += 24*wrong + 1 - 24*value
			if value > 0 {
				l[at].Value += 24 * value
			}
			_, e := screw.Spans(s, l)
			suspects, f := screw.Suspects(s, l)
			if e != api.ErrNone || f != api.OK || len(suspects) != 24 {
				t.Errorf("a ring of %d, wrong by %d, and one more: %d; %v, %d", value, wrong, e, suspects, f)
			}
		}
	}
}

// full returns the number as often as there can be places.
func full(x int) []int { return slices.Repeat([]int{x}, api.ScrewPlaces) }

func waves() []int { return []int{3, -1, 3, -1, 3} }

// P2.4
func TestLap(t *testing.T) {
	for _, x := range []struct {
		l    []int
		nut  int
		want []int
		e    api.Errno
	}{
		{waves(), 1, waves(), api.OK},
		{waves(), 2, []int{2, 2, 2, 2}, api.OK},
		{waves(), 3, []int{5, 1, 5}, api.OK},
		{waves(), 4, []int{4, 4}, api.OK},
		{waves(), 5, []int{7}, api.OK},
		{[]int{1, 10, 100, 1000}, 2, []int{11, 110, 1100}, api.OK},
		{[]int{-1000000}, 1, []int{-1000000}, api.OK},
		{full(1000000), 64, []int{64000000}, api.OK},
		{full(-1000000), 63, []int{-63000000, -63000000}, api.OK},
		{waves(), 0, nil, api.ErrScrewForm},
		{waves(), -1, nil, api.ErrScrewForm},
		{waves(), 6, nil, api.ErrScrewForm},
		{waves(), math.MaxInt, nil, api.ErrScrewForm},
		{waves(), math.MinInt, nil, api.ErrScrewForm},
		{nil, 0, nil, api.ErrScrewForm},
		{nil, 1, nil, api.ErrScrewForm},
		{[]int{}, 1, nil, api.ErrScrewForm},
		{append(full(0), 0), 2, nil, api.ErrScrewForm},
		{[]int{0, 1000001}, 2, nil, api.ErrScrewForm},
		{[]int{-1000001, 0}, 2, nil, api.ErrScrewForm},
		{[]int{0, math.MinInt, math.MaxInt}, 2, nil, api.ErrScrewForm},
	} {
		if l, e := screw.Lap(x.l, x.nut); !slices.Equal(l, x.want) || e != x.e {
			t.Errorf("Lap(%v, %d): %v, %d", x.l, x.nut, l, e)
		}
	}
}

// P2.4
func TestLaps(t *testing.T) {
	for _, x := range []struct {
		l          []int
		nut, limit int
		want       int
		e          api.Errno
	}{
		{waves(), 2, 0, 1, api.OK},
		{waves(), 3, 1, 2, api.OK},
		{waves(), 1, 3, 0, api.ErrNone},
		{waves(), 1, 4, 0, api.OK},
		{waves(), 3, 4, 0, api.OK},
		{waves(), 5, 0, 1, api.OK}, // one place is left, whose spread is 0
		{[]int{7}, 1, 0, 0, api.OK},
		// what is lapped may err twice as much each time: 12 is good for 2 times 7, and 8 for 4 times 2
		{[]int{0, 0, 4, 4, 8}, 2, 7, 1, api.OK},
		{[]int{0, 0, 4, 4}, 2, 2, 2, api.OK},
		// the spreads are 8, 16, 32, 64 and 112; a fifth lap would leave 160, which is 5 times 32
		{[]int{0, 0, 0, 0, 8, 8, 8, 8}, 2, 8, 0, api.OK},
		{[]int{0, 0, 0, 0, 8, 8, 8, 8}, 2, 7, 4, api.OK},
		{[]int{0, 0, 0, 0, 8, 8, 8, 8}, 2, 6, 0, api.ErrNone},
		{[]int{0, 0, 0, 0, 8, 8, 8, 8}, 2, 5, 0, api.ErrNone},
		// the nut is longer than what the first lap leaves: there is no second one
		{[]int{100, 0, 0, 0, 0}, 4, 24, 0, api.ErrNone},
		{[]int{100, 0, 0, 0, 0}, 4, 25, 1, api.OK},
		{full(1000000), 64, 0, 0, api.OK},
		{[]int{1000000, -1000000}, 1, 2000000, 0, api.OK},
		{[]int{1000000, -1000000}, 1, 1999999, 0, api.ErrNone},
		{waves(), 2, -1, 0, api.ErrRange},
		{waves(), 2, 2000001, 0, api.ErrRange},
		{waves(), 2, math.MaxInt, 0, api.ErrRange},
		{waves(), 2, math.MinInt, 0, api.ErrRange},
		{waves(), 0, -1, 0, api.ErrScrewForm},
		{waves(), 6, 0, 0, api.ErrScrewForm},
		{waves(), math.MinInt, 0, 0, api.ErrScrewForm},
		{nil, 1, 2000001, 0, api.ErrScrewForm},
		{[]int{}, 1, 0, 0, api.ErrScrewForm},
		{append(full(0), 0), 2, 0, 0, api.ErrScrewForm},
		{[]int{0, 1000001}, 2, 0, 0, api.ErrScrewForm},
		{[]int{0, -1000001}, 2, 0, 0, api.ErrScrewForm},
	} {
		if n, e := screw.Laps(x.l, x.nut, x.limit); n != x.want || e != x.e {
			t.Errorf("Laps(%v, %d, %d): %d, %d", x.l, x.nut, x.limit, n, e)
		}
	}
}

func shopSpans() []api.Span {
	return []api.Span{{Low: 0, High: 1}, {Low: 5, High: 6}, {Low: 1, High: 2}, {Low: 6, High: 7}}
}

// P2.4
func TestPeriods(t *testing.T) {
	wide := api.Span{Low: -1000000, High: 1000000}
	var all []int
	for i := range 64 {
		all = append(all, i+1)
	}
	for _, x := range []struct {
		l    []api.Span
		want []int
		e    api.Errno
	}{
		{shopSpans(), []int{2, 4}, api.OK},
		{shopSpans()[:3], []int{2, 3}, api.OK},
		{shopSpans()[:1], []int{1}, api.OK},
		{slices.Repeat([]api.Span{wide}, 64), all, api.OK},
		// 0 to 1 meets 1 to 2, which meets 2 to 3, but no number is in all of them
		{[]api.Span{{Low: 0, High: 1}, {Low: 1, High: 2}, {Low: 2, High: 3}}, []int{3}, api.OK},
		{[]api.Span{{Low: 0, High: 2}, {Low: 1, High: 2}, {Low: 2, High: 3}}, []int{1, 2, 3}, api.OK},
		{[]api.Span{{Low: 0, High: 9}, {Low: 3, High: 3}, {Low: 4, High: 4}, {Low: 3, High: 3}, {Low: 5, High: 5}}, []int{4, 5}, api.OK},
		{append(shopSpans(), api.Span{Low: 2, High: 2}), []int{5}, api.OK},
		{append(shopSpans(), api.Span{Low: 1, High: 1}), []int{2, 4, 5}, api.OK},
		{nil, nil, api.ErrScrewForm},
		{[]api.Span{}, nil, api.ErrScrewForm},
		{slices.Repeat([]api.Span{wide}, 65), nil, api.ErrScrewForm},
		{[]api.Span{{Low: 0, High: 1}, {Low: 1, High: 0}}, nil, api.ErrScrewForm},
		{[]api.Span{{Low: 0, High: 1000001}}, nil, api.ErrScrewForm},
		{[]api.Span{{Low: -1000001, High: 0}}, nil, api.ErrScrewForm},
		{[]api.Span{{Low: 1000001, High: 1000001}}, nil, api.ErrScrewForm},
		{[]api.Span{{Low: -1000001, High: -1000001}}, nil, api.ErrScrewForm},
		{[]api.Span{{Low: math.MinInt, High: math.MaxInt}}, nil, api.ErrScrewForm},
	} {
		if l, e := screw.Periods(x.l); !slices.Equal(l, x.want) || e != x.e {
			t.Errorf("Periods(%v): %v, %d", x.l, l, e)
		}
	}
}

// places returns places, often such that a nut can lap their errors away.
func (d *dice) places() []int {
	l := make([]int, d.from(1, 20))
	if d.from(0, 9) == 0 {
		l = make([]int, d.from(1, api.ScrewPlaces))
	}
	most := [...]int{3, 100, api.ScrewError}[d.from(0, 2)]
	period := d.from(1, 7)
	for i := range l {
		if l[i] = d.from(-most, most); i >= period && period < 6 {
			l[i] = l[i-period]
		}
	}
	return l
}

// spans returns spans, often such that have a short period.
func (d *dice) spans() []api.Span {
	l := make([]api.Span, d.from(1, 16))
	period, most := d.from(1, 5), d.from(1, 8)
	for i := range l {
		x := (i % period) * 3
		l[i] = api.Span{Low: x - d.from(0, most), High: x + d.from(0, most)}
		if d.from(0, 15) == 0 {
			l[i] = api.Span{Low: x + 1, High: x + d.from(1, most)}
		}
	}
	return l
}

// P2.4
func TestNutAll(t *testing.T) {
	var d dice
	var seen [6]int
	for range 4000 {
		l := d.places()
		nut, limit := d.from(1, len(l)), d.from(0, 30)
		if d.from(0, 1) == 0 {
			nut, limit = d.from(1, min(4, len(l))), (slices.Max(l)-slices.Min(l))*d.from(0, 100)/100
		}
		if got, e := screw.Lap(l, nut); !slices.Equal(got, slowLap(l, nut)) || e != api.OK {
			t.Fatalf("Lap(%v, %d): %v, %d", l, nut, got, e)
		}
		n, e := screw.Laps(l, nut, limit)
		if want, f := slowLaps(l, nut, limit); n != want || e != f {
			t.Fatalf("Laps(%v, %d, %d): %d, %d, not %d, %d", l, nut, limit, n, e, want, f)
		}
		if e == api.ErrNone {
			n = 5
		}
		seen[n]++
		s := d.spans()
		if got, e := screw.Periods(s); !slices.Equal(got, slowPeriods(s)) || e != api.OK {
			t.Fatalf("Periods(%v): %v, %d, not %v", s, got, e, slowPeriods(s))
		}
	}
	if slices.Min(seen[:]) < 20 {
		t.Errorf("too few of a kind: %v", seen)
	}
}
