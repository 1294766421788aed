package clock_test

import (
	"math"
	"reflect"
	"slices"
	"strings"
	"testing"

	"octant/api"
	"octant/clock"
)

// to returns a span.
func to(low, high int) api.Span { return api.Span{Low: low, High: high} }

// has reports whether a number lies in a span.
func has(s api.Span, x int) bool { return s.Low <= x && x <= s.High }

// shopClock, shopDays, shopTruth, shopTrial and shopWatch are those of the document's examples.
func shopClock() api.Clock {
	return api.Clock{Temps: []int{10, 20, 30}, Rates: []api.Span{to(500, 600), to(200, 300), to(800, 900)}, Age: to(0, 10), Error: to(-1000, 1000)}
}

func shopDays() []api.Span { return []api.Span{to(10, 20), to(15, 25)} }

func shopTruth() api.ClockTruth {
	return api.ClockTruth{Rates: []int{550, 250, 850}, Age: 5, Error: 100, Temps: []int{20, 25}}
}

func entry(name string, weeks ...int) api.ClockEntry {
	return api.ClockEntry{Name: name, Weeks: weeks}
}

func shopTrial() []api.ClockEntry {
	return []api.ClockEntry{entry("arnold", 10, 12, 11, 15), entry("earnshaw", 20, 21, 23, 22), entry("kendall", 0, 0, 3, 1)}
}

func shopWatch() api.ClockWatching {
	return api.ClockWatching{First: []int{0, 2, 4, 30}, Second: []int{0, 1, 0, 1}, Wrong: 1, Rates: [3]api.Span{to(-5, 5), to(-5, 5), to(-5, 5)}}
}

func shopInput() input {
	return input{clock: shopClock(), temp: 15, day: 10, days: shopDays(), truth: shopTruth(), trial: shopTrial(), watch: shopWatch()}
}

// withClock returns the clock of the examples with a change.
func withClock(change func(c *api.Clock)) api.Clock {
	c := shopClock()
	change(&c)
	return c
}

// withWatch returns the watch of the examples with a change.
func withWatch(change func(w *api.ClockWatching)) api.ClockWatching {
	w := shopWatch()
	change(&w)
	return w
}

// flat returns a clock with the same span of rates at all of these temperatures.
func flat(rates api.Span, temps ...int) api.Clock {
	return api.Clock{Temps: temps, Rates: slices.Repeat([]api.Span{rates}, len(temps))}
}

func validClocks() []api.Clock {
	farthest := api.Clock{Temps: []int{0, 60}, Rates: []api.Span{to(-100000, -100000), to(100000, 100000)}, Age: to(-1000, 1000), Error: to(-10000000, 10000000)}
	return []api.Clock{
		shopClock(),
		farthest,
		flat(to(0, 0), 59, 60),
		flat(to(-100000, 100000), 0, 1),
		flat(to(-1, 1), 0, 8, 9, 10, 20, 21, 59, 60),
		withClock(func(c *api.Clock) { c.Age, c.Error = to(1000, 1000), to(10000000, 10000000) }),
		withClock(func(c *api.Clock) { c.Age, c.Error = to(-1000, -1000), to(-10000000, -10000000) }),
	}
}

func invalidClocks() []api.Clock {
	list := []api.Clock{
		{},
		flat(to(0, 0), 20),
		flat(to(0, 0), 0, 1, 2, 3, 4, 5, 6, 7, 8),
		{Temps: []int{10, 20}, Rates: []api.Span{to(0, 0)}},
		{Temps: []int{10, 20}, Rates: []api.Span{to(0, 0), to(0, 0), to(0, 0)}},
		{Temps: []int{10, 20}},
		{Rates: []api.Span{to(0, 0), to(0, 0)}},
		flat(to(0, 0), 10, 10),
		flat(to(0, 0), 10, 20, 20),
		flat(to(0, 0), 20, 10),
		flat(to(0, 0), 10, 30, 20),
		flat(to(0, 0), -1, 10),
		flat(to(0, 0), 10, 61),
		flat(to(0, 0), math.MinInt, 10),
		flat(to(0, 0), 10, math.MaxInt),
		flat(to(0, 0), math.MaxInt, math.MinInt),
	}
	for _, x := range []struct {
		change func(c *api.Clock, s api.Span)
		most   int
	}{
		{func(c *api.Clock, s api.Span) { c.Rates[0] = s }, 100000},
		{func(c *api.Clock, s api.Span) { c.Rates[2] = s }, 100000},
		{func(c *api.Clock, s api.Span) { c.Age = s }, 1000},
		{func(c *api.Clock, s api.Span) { c.Error = s }, 10000000},
	} {
		for _, s := range []api.Span{to(1, 0), to(x.most, -x.most), to(0, x.most+1), to(-x.most-1, 0), to(math.MinInt, math.MaxInt), to(math.MaxInt, math.MinInt), to(math.MinInt, math.MinInt), to(math.MaxInt, math.MaxInt)} {
			list = append(list, withClock(func(c *api.Clock) { x.change(c, s) }))
		}
	}
	return list
}

// P7.1
func TestCheck(t *testing.T) {
	for _, c := range validClocks() {
		if e := clock.Check(c); e != api.OK {
			t.Errorf("Check(%v): %d", c, e)
		}
	}
	for _, c := range invalidClocks() {
		if e := clock.Check(c); e != api.ErrClock {
			t.Errorf("Check(%v): %d", c, e)
		}
	}
}

// P7.1: the error of the clock comes first, and then that of the days; no result comes with an error.
func TestOrderOfErrors(t *testing.T) {
	wrong := input{temp: -1, day: -1, truth: api.ClockTruth{Age: -2000}}
	for _, call := range clockCalls() {
		for _, c := range invalidClocks() {
			for _, in := range []input{shopInput(), wrong} {
				in.clock = c
				if r := call.do(in); !reflect.DeepEqual(r, result{e: api.ErrClock}) {
					t.Errorf("%s with %v: %v", call.name, c, r)
				}
			}
		}
	}
	for _, days := range invalidVoyages() {
		for _, truth := range []api.ClockTruth{shopTruth(), wrong.truth} {
			if l, e := clock.Errors(shopClock(), days, truth); l != nil || e != api.ErrClockDays {
				t.Errorf("Errors(%v): %v, %d", days, l, e)
			}
		}
		if l, e := clock.Cone(shopClock(), days); l != nil || e != api.ErrClockDays {
			t.Errorf("Cone(%v): %v, %d", days, l, e)
		}
	}
}

func invalidVoyages() [][]api.Span {
	return [][]api.Span{
		nil,
		{},
		slices.Repeat([]api.Span{to(10, 20)}, 61),
		{to(9, 20)},
		{to(10, 31)},
		{to(20, 19)},
		{to(30, 10)},
		{to(0, 60)},
		{to(10, 30), to(9, 9)},
		{to(10, 30), to(31, 31)},
		{to(31, 31), to(10, 30)},
		{to(10, 20), to(15, 14), to(10, 20)},
		{to(math.MinInt, 20)},
		{to(10, math.MaxInt)},
		{to(math.MaxInt, math.MinInt)},
		{to(math.MinInt, math.MaxInt)},
	}
}

// P7.1
func TestRate(t *testing.T) {
	fall := api.Clock{Temps: []int{0, 7, 60}, Rates: []api.Span{to(-10, -3), to(-1, 4), to(-100000, 100000)}, Age: to(-1000, 3)}
	for _, x := range []struct {
		c         api.Clock
		temp, day int
		want      api.Span
	}{
		{shopClock(), 15, 0, to(350, 450)},
		{shopClock(), 15, 10, to(350, 550)},
		{shopClock(), 24, 0, to(440, 540)},
		// at those of the table
		{shopClock(), 10, 0, to(500, 600)},
		{shopClock(), 20, 0, to(200, 300)},
		{shopClock(), 30, 0, to(800, 900)},
		{shopClock(), 30, 59, to(800, 1490)},
		{shopClock(), 11, 1, to(470, 580)},
		{shopClock(), 29, 2, to(740, 860)},
		// rounded down, also below 0
		{fall, 0, 0, to(-10, -3)},
		{fall, 1, 0, to(-9, -2)},
		{fall, 2, 0, to(-8, -1)},
		{fall, 3, 0, to(-7, 0)},
		{fall, 6, 0, to(-3, 3)},
		{fall, 7, 0, to(-1, 4)},
		{fall, 8, 0, to(-1888, 1890)},
		{fall, 60, 0, to(-100000, 100000)},
		// the age of the day, which may make it slower
		{fall, 7, 1, to(-1001, 7)},
		{fall, 7, 59, to(-59001, 181)},
		{fall, 60, 59, to(-159000, 100177)},
		{flat(to(5, 5), 59, 60), 60, 59, to(5, 5)},
	} {
		if s, e := clock.Rate(x.c, x.temp, x.day); s != x.want || e != api.OK {
			t.Errorf("Rate(%v, %d, %d): %v, %d, not %v", x.c, x.temp, x.day, s, e, x.want)
		}
	}
	for _, x := range []struct{ temp, day int }{{9, 0}, {31, 0}, {0, 0}, {60, 0}, {-15, 0}, {math.MinInt, 0}, {math.MaxInt, 0}, {15, -1}, {15, 60}, {15, math.MinInt}, {15, math.MaxInt}, {9, 60}} {
		if s, e := clock.Rate(shopClock(), x.temp, x.day); s != (api.Span{}) || e != api.ErrRange {
			t.Errorf("Rate at %d on the day %d: %v, %d", x.temp, x.day, s, e)
		}
	}
}

// P7.1: at all temperatures of any clock.
func TestRateAll(t *testing.T) {
	var d dice
	for range 300 {
		c := d.large()
		var low, high []int
		for _, s := range c.Rates {
			low, high = append(low, s.Low), append(high, s.High)
		}
		for temp := -1; temp <= 61; temp++ {
			day := d.from(0, 59)
			s, e := clock.Rate(c, temp, day)
			if temp < c.Temps[0] || temp > c.Temps[len(c.Temps)-1] {
				if s != (api.Span{}) || e != api.ErrRange {
					t.Fatalf("Rate(%v, %d, %d): %v, %d", c, temp, day, s, e)
				}
				continue
			}
			want := to(slowRate(c.Temps, low, temp)+c.Age.Low*day, slowRate(c.Temps, high, temp)+c.Age.High*day)
			if s != want || e != api.OK {
				t.Fatalf("Rate(%v, %d, %d): %v, %d, not %v", c, temp, day, s, e, want)
			}
		}
	}
}

// P7.2
func TestErrors(t *testing.T) {
	fall := api.Clock{Temps: []int{0, 7}, Rates: []api.Span{to(-10, -3), to(-1, 4)}, Age: to(-3, 3), Error: to(-5, 5)}
	for _, x := range []struct {
		c     api.Clock
		days  []api.Span
		truth api.ClockTruth
		want  []int
	}{
		{shopClock(), shopDays(), shopTruth(), []int{350, 905}},
		{shopClock(), shopDays()[:1], api.ClockTruth{Rates: []int{500, 300, 900}, Age: 10, Error: -1000, Temps: []int{11}}, []int{-520}},
		{shopClock(), []api.Span{to(30, 30), to(10, 10), to(10, 30)}, api.ClockTruth{Rates: []int{600, 200, 800}, Age: 0, Error: 1000, Temps: []int{30, 10, 20}}, []int{1800, 2400, 2600}},
		// rounded down each day for itself, and slower with age
		{fall, []api.Span{to(0, 7), to(0, 7), to(0, 7), to(0, 7)}, api.ClockTruth{Rates: []int{-10, -1}, Age: -2, Error: 5, Temps: []int{1, 2, 7, 6}}, []int{-4, -14, -19, -28}},
	} {
		if l, e := clock.Errors(x.c, x.days, x.truth); !slices.Equal(l, x.want) || e != api.OK {
			t.Errorf("Errors(%v, %v, %v): %v, %d, not %v", x.c, x.days, x.truth, l, e, x.want)
		}
	}
}

// P7.2
func TestNoTruth(t *testing.T) {
	for i, change := range []func(x *api.ClockTruth){
		func(x *api.ClockTruth) { *x = api.ClockTruth{} },
		func(x *api.ClockTruth) { x.Rates = nil },
		func(x *api.ClockTruth) { x.Rates = x.Rates[:2] },
		func(x *api.ClockTruth) { x.Rates = append(x.Rates, 850) },
		func(x *api.ClockTruth) { x.Rates[0] = 499 },
		func(x *api.ClockTruth) { x.Rates[0] = 601 },
		func(x *api.ClockTruth) { x.Rates[2] = 799 },
		func(x *api.ClockTruth) { x.Rates[2] = 901 },
		func(x *api.ClockTruth) { x.Rates[1] = math.MinInt },
		func(x *api.ClockTruth) { x.Rates[1] = math.MaxInt },
		func(x *api.ClockTruth) { x.Age = -1 },
		func(x *api.ClockTruth) { x.Age = 11 },
		func(x *api.ClockTruth) { x.Age = math.MinInt },
		func(x *api.ClockTruth) { x.Error = -1001 },
		func(x *api.ClockTruth) { x.Error = 1001 },
		func(x *api.ClockTruth) { x.Error = math.MaxInt },
		func(x *api.ClockTruth) { x.Temps = nil },
		func(x *api.ClockTruth) { x.Temps = x.Temps[:1] },
		func(x *api.ClockTruth) { x.Temps = append(x.Temps, 20) },
		func(x *api.ClockTruth) { x.Temps[0] = 9 },
		func(x *api.ClockTruth) { x.Temps[0] = 21 },
		func(x *api.ClockTruth) { x.Temps[1] = 14 },
		func(x *api.ClockTruth) { x.Temps[1] = 26 },
		func(x *api.ClockTruth) { x.Temps[1] = math.MinInt },
	} {
		truth := shopTruth()
		change(&truth)
		if l, e := clock.Errors(shopClock(), shopDays(), truth); l != nil || e != api.ErrClockTruth {
			t.Errorf("Errors with what is no truth %d: %v, %d", i, l, e)
		}
	}
	for _, truth := range []api.ClockTruth{
		{Rates: []int{500, 200, 800}, Age: 0, Error: -1000, Temps: []int{10, 15}},
		{Rates: []int{600, 300, 900}, Age: 10, Error: 1000, Temps: []int{20, 25}},
	} {
		if _, e := clock.Errors(shopClock(), shopDays(), truth); e != api.OK {
			t.Errorf("Errors(%v): %d", truth, e)
		}
	}
}

// P7.2
func TestCone(t *testing.T) {
	hill := api.Clock{Temps: []int{0, 10, 20}, Rates: []api.Span{to(-50, 0), to(70, 100), to(-50, 0)}}
	for _, x := range []struct {
		c          api.Clock
		days, want []api.Span
	}{
		{shopClock(), shopDays(), []api.Span{to(-800, 1600), to(-600, 2210)}},
		{shopClock(), []api.Span{to(10, 10)}, []api.Span{to(-500, 1600)}},
		{shopClock(), []api.Span{to(10, 30)}, []api.Span{to(-800, 1900)}},
		// what is farthest is between the ends of the day, or at them
		{hill, []api.Span{to(0, 20)}, []api.Span{to(-50, 100)}},
		{hill, []api.Span{to(5, 15)}, []api.Span{to(10, 100)}},
		{hill, []api.Span{to(3, 9)}, []api.Span{to(-14, 90)}},
		{hill, []api.Span{to(12, 13), to(9, 9), to(20, 20)}, []api.Span{to(34, 80), to(92, 170), to(42, 170)}},
		// the age counts from the second day on, and to both sides
		{withClock(func(c *api.Clock) { c.Age, c.Error = to(-7, 2), to(0, 0) }), slices.Repeat([]api.Span{to(20, 20)}, 4), []api.Span{to(200, 300), to(393, 602), to(579, 906), to(758, 1212)}},
	} {
		if l, e := clock.Cone(x.c, x.days); !slices.Equal(l, x.want) || e != api.OK {
			t.Errorf("Cone(%v, %v): %v, %d, not %v", x.c, x.days, l, e, x.want)
		}
	}
}

// P7.2: the longest voyage with the farthest numbers.
func TestConeMost(t *testing.T) {
	c := flat(to(-100000, 100000), 0, 1, 2, 3, 4, 5, 6, 60)
	c.Age, c.Error = to(-1000, 1000), to(-10000000, 10000000)
	l, e := clock.Cone(c, slices.Repeat([]api.Span{to(0, 60)}, 60))
	if len(l) != 60 || l[0] != to(-10100000, 10100000) || l[59] != to(-17770000, 17770000) || e != api.OK {
		t.Errorf("Cone: %v, %d", l, e)
	}
}

// P7.2: by all truths.
func TestConeAll(t *testing.T) {
	var d dice
	for range 150 {
		c := d.small()
		days := d.voyage(c, d.from(1, 3), 3)
		want := slowCone(c, days)
		if l, e := clock.Cone(c, days); !slices.Equal(l, want) || e != api.OK {
			t.Fatalf("Cone(%v, %v): %v, %d, not %v", c, days, l, e, want)
		}
	}
}

// P7.3
func TestRank(t *testing.T) {
	long := strings.Repeat("a", 16)
	for _, x := range []struct {
		l              []api.ClockEntry
		order, numbers []int
	}{
		{shopTrial(), []int{1, 2, 0}, []int{13, 7, 9}},
		{[]api.ClockEntry{entry("a", 5, 5)}, []int{0}, []int{0}},
		{[]api.ClockEntry{entry("a", 5, 4)}, []int{0}, []int{3}},
		// the same numbers: by names, byte by byte
		{[]api.ClockEntry{entry("b", 0, 1), entry("a", 1, 0), entry("ab", -1, -2), entry("a1", 7, 8), entry("a-", 9, 9), entry("aa", -5, -6)}, []int{4, 1, 3, 5, 2, 0}, []int{3, 3, 3, 3, 0, 3}},
		{[]api.ClockEntry{entry(long, 1, 1), entry(long[1:], 2, 2)}, []int{1, 0}, []int{0, 0}},
		// the greatest difference is that of weeks side by side, whatever its sign is
		{[]api.ClockEntry{entry("a", 0, 3, 6, 9), entry("b", 0, 9, 6, 3), entry("c", 9, 0, 3, 6)}, []int{0, 1, 2}, []int{15, 27, 27}},
		{[]api.ClockEntry{entry("a", -4, 3, -2), entry("b", 3, -4, 3)}, []int{0, 1}, []int{21, 21}},
		{[]api.ClockEntry{entry("z9-", -100000, 100000), entry("y0", 100000, 100000)}, []int{1, 0}, []int{600000, 0}},
	} {
		if order, numbers, e := clock.Rank(x.l); !slices.Equal(order, x.order) || !slices.Equal(numbers, x.numbers) || e != api.OK {
			t.Errorf("Rank(%v): %v, %v, %d, not %v, %v", x.l, order, numbers, e, x.order, x.numbers)
		}
	}
}

// twelve returns a trial of as many clocks, and as many weeks, as there can be.
func twelve() []api.ClockEntry {
	var l []api.ClockEntry
	for i := range 12 {
		weeks := make([]int, 30)
		weeks[i] = 12 - i
		l = append(l, entry("clock-"+string(rune('a'+i)), weeks...))
	}
	return l
}

// P7.3
func TestRankMost(t *testing.T) {
	order, numbers, e := clock.Rank(twelve())
	if !slices.Equal(order, []int{11, 10, 9, 8, 7, 6, 5, 4, 3, 2, 1, 0}) || !slices.Equal(numbers, []int{36, 33, 30, 27, 24, 21, 18, 15, 12, 9, 6, 3}) || e != api.OK {
		t.Errorf("Rank: %v, %v, %d", order, numbers, e)
	}
}

// P7.3
func TestNoTrial(t *testing.T) {
	list := [][]api.ClockEntry{
		nil,
		{},
		append(twelve(), entry("thirteenth", make([]int, 30)...)),
		{entry("a")},
		{entry("a", 1)},
		{entry("a", make([]int, 31)...)},
		{entry("a", 1, 2), entry("b", 1, 2, 3)},
		{entry("a", 1, 2, 3), entry("b", 1, 2)},
		{entry("a", 1, 2), entry("b")},
		{entry("a", 1, 2), entry("b", 1, 2), entry("a", 3, 4)},
	}
	for _, name := range []string{"", "A", "9", "-", "9a", "-a", "aB", "a b", "a_", "a.", "é", "aé", "a\x00", "a\n", " a", strings.Repeat("a", 17)} {
		list = append(list, []api.ClockEntry{entry("a", 1, 2), entry(name, 1, 2)})
	}
	for _, week := range []int{-100001, 100001, math.MinInt, math.MaxInt} {
		list = append(list, []api.ClockEntry{entry("a", week, 0)}, []api.ClockEntry{entry("a", 0, 0), entry("b", 0, week)})
	}
	for _, l := range list {
		if order, numbers, e := clock.Rank(l); order != nil || numbers != nil || e != api.ErrClockTrial {
			t.Errorf("Rank(%v): %v, %v, %d", l, order, numbers, e)
		}
	}
}

// watch returns one with the same span of rates for all three clocks.
func watch(wrong int, rates api.Span, first, second []int) api.ClockWatching {
	return api.ClockWatching{First: first, Second: second, Wrong: wrong, Rates: [3]api.Span{rates, rates, rates}}
}

// checkWatch checks what is said of a watch (since is -1 if no clock must have jumped).
func checkWatch(t *testing.T, w api.ClockWatching, sets []int, since int) {
	t.Helper()
	if l, e := clock.Jumped(w); !slices.Equal(l, sets) || e != api.OK {
		t.Fatalf("Jumped(%v): %v, %d, not %v", w, l, e, sets)
	}
	want := api.OK
	if since < 0 {
		since, want = 0, api.ErrNone
	}
	if day, e := clock.Since(w); day != since || e != want {
		t.Fatalf("Since(%v): %d, %d, not %d, %d", w, day, e, since, want)
	}
}

// P7.4, P7.5
func TestWatch(t *testing.T) {
	checkWatch(t, shopWatch(), []int{1}, 3)
	checkWatch(t, withWatch(func(w *api.ClockWatching) { w.Second[3] = -26 }), []int{2}, 3)
	checkWatch(t, withWatch(func(w *api.ClockWatching) { w.First[3] = 6 }), []int{0}, -1)
	checkWatch(t, withWatch(func(w *api.ClockWatching) { w.First[3], w.Second[3] = 6, 30 }), []int{4}, 3)
	checkWatch(t, withWatch(func(w *api.ClockWatching) { w.Second[3] = 30 }), []int{3, 5, 6}, 3)
	rates := to(-5, 5)
	two := func(first, second int) api.ClockWatching {
		return watch(1, rates, []int{7, 7 + first}, []int{-9, second - 9})
	}
	for _, x := range []struct {
		first, second int
		sets          []int
	}{
		{0, 0, []int{0}},
		{12, 0, []int{0}},
		{-12, 0, []int{0}},
		{0, 12, []int{0}},
		{0, -12, []int{0}},
		// just too far: by the one clock, or by the one in the middle, whose comparisons were both wrong
		{13, 0, []int{1, 2}},
		{-13, 0, []int{1, 2}},
		{13, 1, []int{1, 2}},
		{13, 2, []int{1}},
		{0, 13, []int{2, 4}},
		{2, -13, []int{2, 4}},
		{1, -13, []int{2, 4}},
		{-2, -13, []int{4}},
		// each is possible, but not both: the clock in the middle had to gain and to lose
		{12, 12, []int{1, 4}},
		{12, 2, []int{0}},
		{12, 3, []int{1, 4}},
		{12, -12, []int{0}},
		{13, -13, []int{2}},
		{13, 13, []int{3, 5, 6}},
		{1000000, 0, []int{1}},
		{1000000, -1000000, []int{2}},
		{1000000, -1000014, []int{2}},
		{1000000, -1000015, []int{3, 5, 6}},
	} {
		since := 1
		if x.sets[0] == 0 {
			since = -1
		}
		checkWatch(t, two(x.first, x.second), x.sets, since)
	}
}

// P7.4, P7.5: a watch whose clocks have rates of their own, and comparisons that are not wrong, or go wrong slowly.
func TestWatchRates(t *testing.T) {
	exact := func(first, second []int) api.ClockWatching {
		return api.ClockWatching{First: first, Second: second, Rates: [3]api.Span{to(3, 3), to(-2, -1), to(100000, 100000)}}
	}
	checkWatch(t, exact([]int{0, 5, 9}, []int{0, -100002, -200003}), []int{0}, -1)
	checkWatch(t, exact([]int{0, 5, 9}, []int{0, -100002, -200010}), []int{4}, 2)
	// the clock 1 can have gained -1 by the clock 0, and -2 by the clock 2
	checkWatch(t, exact([]int{0, 5, 9}, []int{0, -100002, -200004}), []int{1, 4}, 2)
	checkWatch(t, exact([]int{0, 5, 8}, []int{0, -100002, -200003}), []int{1}, 2)
	checkWatch(t, exact([]int{0, 6, 10}, []int{0, -100003, -200004}), []int{2}, 1)
	checkWatch(t, exact([]int{0, 6, 11}, []int{0, -100002, -200005}), []int{3, 5, 6}, 1)
	// the clock 2 that jumps explains the one day, and the clock 0 the other one
	checkWatch(t, exact([]int{0, 5, 50}, []int{0, -90000, -190001}), []int{3, 5, 6}, 1)
	// within what comparisons are wrong by each day, but not all days together
	zero := to(0, 0)
	checkWatch(t, watch(1, zero, []int{0, 1, 2}, []int{0, 0, 0}), []int{0}, -1)
	checkWatch(t, watch(1, zero, []int{0, 1, 2, 3}, []int{0, 0, 0, 0}), []int{1, 2}, 3)
	checkWatch(t, watch(1, zero, []int{3, 2, 1, 0}, []int{0, 0, 0, 0}), []int{1, 2}, 3)
	checkWatch(t, watch(0, zero, []int{0, 0, 0, 0}, []int{0, 0, 0, 1}), []int{4}, 3)
	// gains add up day by day
	checkWatch(t, watch(1, to(-1, 1), []int{0, 2, 4, 6, 8, 10}, []int{0, 0, 0, 0, 0, 0}), []int{0}, -1)
	checkWatch(t, watch(1, to(-1, 1), []int{0, 2, 4, 6, 8, 12}, []int{0, 0, 0, 0, 0, 0}), []int{0}, -1)
	checkWatch(t, watch(1, to(-1, 1), []int{0, 2, 4, 6, 8, 13}, []int{0, 0, 0, 0, 0, 0}), []int{1, 2}, 5)
	checkWatch(t, watch(1, to(-1, 1), []int{0, 2, 4, 6, 8, 15}, []int{0, 0, 0, 0, 0, 0}), []int{1}, 5)
}

// P7.4, P7.5: as many days as there can be, and the farthest numbers.
func TestWatchMost(t *testing.T) {
	steps := func(by int) []int {
		var l []int
		for day := range 20 {
			l = append(l, by*day)
		}
		return l
	}
	rates := to(-100000, 100000)
	checkWatch(t, watch(1000, rates, steps(200000), steps(0)), []int{0}, -1)
	// a little more each day goes on until the comparisons cannot be wrong by so much
	checkWatch(t, watch(1000, rates, steps(200105), make([]int, 20)), []int{0}, -1)
	checkWatch(t, watch(1000, rates, steps(200106), make([]int, 20)), []int{1, 2}, 19)
	checkWatch(t, watch(1000, rates, make([]int, 20), steps(-200200)), []int{2, 4}, 11)
	far := make([]int, 20)
	far[19] = 1000000000
	checkWatch(t, watch(1000, rates, far, make([]int, 20)), []int{1}, 19)
	back := slices.Clone(far)
	back[0], back[19] = 1000000000, -1000000000
	checkWatch(t, watch(1000, rates, back, far), []int{3, 5, 6}, 1)
	checkWatch(t, watch(0, to(-100000, -100000), back, back), []int{3, 5, 6}, 1)
}

// P7.4, P7.5: by all that the clocks can be ahead of each other.
func TestWatchAll(t *testing.T) {
	var d dice
	seen := map[int]int{}
	for range 2000 {
		w := d.watched(d.from(2, 6), d.from(0, 2), d.from(0, 6), d.from(0, 7), d.from(1, 20))
		sets := slowJumped(w)
		checkWatch(t, w, sets, slowSince(w))
		all := 0
		for _, set := range sets {
			all = all<<3 | set
		}
		seen[all]++
	}
	for _, all := range []int{0, 1, 2, 4, 0o12, 0o14, 0o24, 0o356} {
		if seen[all] < 10 {
			t.Errorf("only %d watches with the sets %o", seen[all], all)
		}
	}
}

func invalidWatches() []api.ClockWatching {
	list := []api.ClockWatching{
		{},
		watch(0, to(0, 0), []int{1}, []int{1}),
		watch(0, to(0, 0), make([]int, 21), make([]int, 21)),
		watch(0, to(0, 0), []int{1, 2}, nil),
		watch(0, to(0, 0), nil, []int{1, 2}),
		watch(0, to(0, 0), []int{1, 2}, []int{1}),
		watch(0, to(0, 0), []int{1, 2}, []int{1, 2, 3}),
	}
	for _, wrong := range []int{-1, 1001, math.MinInt, math.MaxInt} {
		list = append(list, withWatch(func(w *api.ClockWatching) { w.Wrong = wrong }))
	}
	for _, x := range []int{-1000000001, 1000000001, math.MinInt, math.MaxInt} {
		list = append(list,
			withWatch(func(w *api.ClockWatching) { w.First[0] = x }),
			withWatch(func(w *api.ClockWatching) { w.First[3] = x }),
			withWatch(func(w *api.ClockWatching) { w.Second[0] = x }),
			withWatch(func(w *api.ClockWatching) { w.Second[3] = x }),
		)
	}
	for k := range 3 {
		for _, s := range []api.Span{to(1, 0), to(-100001, 0), to(0, 100001), to(math.MinInt, math.MaxInt), to(math.MaxInt, math.MinInt), to(math.MinInt, math.MinInt), to(math.MaxInt, math.MaxInt)} {
			list = append(list, withWatch(func(w *api.ClockWatching) { w.Rates[k] = s }))
		}
	}
	return list
}

// P7.4, P7.5
func TestNoWatch(t *testing.T) {
	for _, w := range invalidWatches() {
		if l, e := clock.Jumped(w); l != nil || e != api.ErrClockWatch {
			t.Errorf("Jumped(%v): %v, %d", w, l, e)
		}
		if day, e := clock.Since(w); day != 0 || e != api.ErrClockWatch {
			t.Errorf("Since(%v): %d, %d", w, day, e)
		}
	}
	farthest := []int{-1000000000, 1000000000}
	for _, w := range []api.ClockWatching{
		watch(0, to(-100000, 100000), farthest, farthest),
		watch(1000, to(0, 0), []int{0, 0}, []int{0, 0}),
		watch(1000, to(0, 0), make([]int, 20), make([]int, 20)),
	} {
		if _, e := clock.Jumped(w); e != api.OK {
			t.Errorf("Jumped(%v): %d", w, e)
		}
	}
}
