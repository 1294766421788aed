package wreck_test

import (
	"math"
	"reflect"
	"slices"
	"strings"
	"testing"

	"octant/api"
	"octant/wreck"
)

// input is what all functions are called with.
type input struct {
	page        [][]string
	text        string
	records     []api.WreckRecord
	number, day int
	claim       api.WreckClaim
}

// result is what any function returns.
type result struct {
	page           [][]string
	readings, left int
	at             api.WreckPlace
	text           string
	made           int
	why            api.WreckWhy
	e              api.Errno
}

type call struct {
	name string
	do   func(in input) result
}

func pageCalls() []call {
	return []call{
		{"CheckPage", func(in input) result { return result{e: wreck.CheckPage(in.page)} }},
		{"Restore", func(in input) (r result) {
			r.page, r.readings, r.e = wreck.Restore(in.page)
			return r
		}},
		{"Ask", func(in input) (r result) {
			r.at, r.left, r.e = wreck.Ask(in.page)
			return r
		}},
		{"Print", func(in input) (r result) {
			r.text, r.e = wreck.Print(in.page)
			return r
		}},
	}
}

func bookCalls() []call {
	return []call{
		{"CheckBook", func(in input) result { return result{e: wreck.CheckBook(in.records)} }},
		{"Trace", func(in input) (r result) {
			r.made, r.e = wreck.Trace(in.records, in.number, in.day)
			return r
		}},
		{"Judge", func(in input) (r result) {
			r.why, r.e = wreck.Judge(in.records, in.claim)
			return r
		}},
	}
}

func allCalls() []call {
	return slices.Concat(pageCalls(), bookCalls(), []call{{"Parse", func(in input) (r result) {
		r.page, r.e = wreck.Parse(in.text)
		return r
	}}})
}

func shopInput() input {
	return input{page: pageOf(shopPage), text: "12 ?5 47\n8 20 2?\n2? 55 75\n", records: shopBook(), number: 205, day: 450, claim: shopClaim()}
}

// roomy returns a list with room behind it, so that an append to it would show.
func roomy[T any](l []T) []T {
	big := make([]T, len(l), len(l)+4)
	copy(big, l)
	return big
}

// roomyInput returns the input of the examples with a page, all of whose lists have room behind them.
func roomyInput(page string) input {
	in := shopInput()
	in.page = roomy(pageOf(page))
	for i := range in.page {
		in.page[i] = roomy(in.page[i])
	}
	in.records, in.claim.Marks = roomy(in.records), roomy(in.claim.Marks)
	return in
}

// behind returns what lies in, and behind, the lists of an input.
func behind(in input) []any {
	list := []any{in.page[:cap(in.page)], in.records[:cap(in.records)], in.claim.Marks[:cap(in.claim.Marks)]}
	for _, row := range in.page {
		list = append(list, row[:cap(row)])
	}
	return list
}

// somePages returns pages with one reading, with several, with none, and with nothing lost.
func somePages() []string {
	return []string{shopPage, shopSecond, shown(falsePages()[0]), "1 2 3; 4 5 9; 5 7 12"}
}

// P9.6: no call changes an argument, nor what lies behind it.
func TestArgumentsAreRead(t *testing.T) {
	for _, c := range allCalls() {
		for _, page := range somePages() {
			in, want := roomyInput(page), roomyInput(page)
			c.do(in)
			if !reflect.DeepEqual(behind(in), behind(want)) {
				t.Errorf("%s changes its arguments: %v", c.name, in)
			}
		}
	}
}

// spoil changes all that lies in, and behind, a list.
func spoil[T any](wrong T, list []T) {
	list = list[:cap(list)]
	for i := range list {
		list[i] = wrong
	}
}

// spoilPage changes all that a page has.
func spoilPage(p [][]string) {
	for _, row := range p {
		spoil("spoilt", row)
	}
	spoil([]string{"spoilt"}, p)
}

// P9.6: results share no memory with arguments, nor with what another call returns.
func TestResultsAreNew(t *testing.T) {
	for _, c := range allCalls() {
		for _, page := range somePages() {
			in := roomyInput(page)
			r, want := c.do(in), c.do(roomyInput(page))
			spoilPage(in.page)
			spoil(made(-77, -77, "spoilt"), in.records)
			spoil("spoilt", in.claim.Marks)
			if !reflect.DeepEqual(r, want) {
				t.Errorf("%s: its result changes with its arguments: %v, not %v", c.name, r, want)
			}
			other := roomyInput(page)
			r = c.do(other)
			spoilPage(r.page)
			if !reflect.DeepEqual(behind(other), behind(roomyInput(page))) {
				t.Errorf("%s: its arguments change with its result: %v", c.name, other)
			}
			if again := c.do(roomyInput(page)); !reflect.DeepEqual(again, want) {
				t.Errorf("%s: another result after a change of the first one: %v, not %v", c.name, again, want)
			}
		}
	}
}

// P9.6: the rows of a page that is returned share no memory with each other.
func TestRowsAreApart(t *testing.T) {
	for _, c := range allCalls() {
		want := c.do(roomyInput(shopSecond)).page
		for i := range want {
			p := c.do(roomyInput(shopSecond)).page
			spoil("spoilt", p[i])
			for k := range p {
				if k != i && !slices.Equal(p[k], want[k]) {
					t.Errorf("%s: the row %d changes with the row %d: %q", c.name, k, i, p)
				}
			}
		}
	}
}

// anyInput returns an input that may be valid or not.
func anyInput(d *dice) input {
	numbers := []int{math.MinInt, -100001, -1, 0, 1, 2, 3, 4, 5, 10, 101, 102, 205, 450, 99999, 100000, 100001, math.MaxInt}
	names := []string{"", "a", "bird", "Bird", "0", "?", "12", "0?", "?????", "123456", "ramsden", "\x00", "abcdefghijklmnopq"}
	in := roomyInput(pick(d, somePages()...))
	maybe := func(l ...*int) {
		for _, x := range l {
			if d.from(0, 19) == 0 {
				*x = pick(d, numbers...)
			}
		}
	}
	rename := func(l ...*string) {
		for _, x := range l {
			if d.from(0, 19) == 0 {
				*x = pick(d, names...)
			}
		}
	}
	for i := range in.page {
		for k := range in.page[i] {
			rename(&in.page[i][k])
		}
		in.page[i] = in.page[i][:len(in.page[i])-d.from(0, 10)/10]
	}
	in.page = in.page[:len(in.page)-d.from(0, 10)/10]
	for i := range in.records {
		r := &in.records[i]
		maybe(&r.Kind, &r.Day, &r.Number, &r.New)
		rename(&r.By)
	}
	in.records = in.records[:d.from(0, len(in.records))]
	maybe(&in.number, &in.day, &in.claim.Number, &in.claim.Day, &in.claim.Made)
	rename(&in.claim.Maker, &in.claim.Marks[0], &in.claim.Marks[1])
	cut := d.from(0, len(in.text))
	in.text = in.text[:cut] + pick(d, names...) + in.text[cut:]
	return in
}

// P1: no call panics, and no result comes with an error.
func TestAnyArguments(t *testing.T) {
	var d dice
	for range 20000 {
		in := anyInput(&d)
		for _, c := range allCalls() {
			if r := c.do(in); r.e != api.OK && !reflect.DeepEqual(r, result{e: r.e}) {
				t.Fatalf("%s with an error: %v", c.name, r)
			}
		}
	}
}

// P2: a call has the same result when it comes again, behind others; a nil list is as an empty one (R3).
func TestSameAgain(t *testing.T) {
	none := input{number: 1, claim: api.WreckClaim{Number: 1, Maker: "a"}}
	empty := none
	empty.page, empty.records, empty.claim.Marks = [][]string{}, []api.WreckRecord{}, []string{}
	for _, c := range allCalls() {
		for _, page := range somePages() {
			first := c.do(roomyInput(page))
			for _, other := range allCalls() {
				for _, x := range somePages() {
					other.do(roomyInput(x))
				}
			}
			if again := c.do(roomyInput(page)); !reflect.DeepEqual(first, again) {
				t.Errorf("%s: %v, then %v", c.name, first, again)
			}
		}
		if a, b := c.do(none), c.do(empty); !reflect.DeepEqual(a, b) {
			t.Errorf("%s: %v with nil lists, %v with empty ones", c.name, a, b)
		}
	}
	c := api.WreckClaim{Number: 102, Day: 599, Maker: "sisson", Made: 20, Marks: []string{}}
	if w, e := wreck.Judge(shopBook(), c); w != why(0, 0) || e != api.OK {
		t.Errorf("Judge with an empty list of marks: %v, %d", w, e)
	}
}

// restore returns what is restored of a page that has a reading.
func restore(t *testing.T, p [][]string) (restored [][]string, readings int) {
	t.Helper()
	restored, readings, e := wreck.Restore(p)
	if readings < 1 || e != api.OK || wreck.CheckPage(restored) != api.OK {
		t.Fatalf("Restore(%s): %q, %d, %d", shown(p), restored, readings, e)
	}
	return restored, readings
}

// P9.7: what is restored is what was there, and what was not lost stays.
func TestTheWetBook(t *testing.T) {
	var d dice
	restoredAll, restoredSome := 0, 0
	for range 3000 {
		p, was := d.wet(5)
		restored, n := restore(t, p)
		left := placesOf(restored, true)
		filled := clonePage(restored)
		for _, at := range left {
			filled = withByte(filled, at, byteAt(was, at))
		}
		if shown(filled) != shown(was) {
			t.Fatalf("Restore(%s): %s, but it was %s", shown(p), shown(restored), shown(was))
		}
		if (n == 1) != (len(left) == 0) {
			t.Fatalf("Restore(%s): %s with %d readings", shown(p), shown(restored), n)
		}
		if len(left) == 0 {
			restoredAll++
		} else if len(left) < len(placesOf(p, true)) {
			restoredSome++
		}
	}
	if restoredAll < 1000 || restoredSome < 100 {
		t.Errorf("all is restored of %d pages, some of %d", restoredAll, restoredSome)
	}
}

// P9.7: no byte is restored of which another reading agrees, and each other one that has just one digit is.
func TestSure(t *testing.T) {
	var d dice
	for range 1000 {
		p, was := d.wet(5)
		restored, _ := restore(t, p)
		for _, at := range placesOf(p, true) {
			others := 0
			for digit := byte('0'); digit <= '9'; digit++ {
				other := withByte(p, at, digit)
				if digit == byteAt(was, at) || wreck.CheckPage(other) != api.OK {
					continue
				}
				if _, _, e := wreck.Restore(other); e == api.OK {
					others++
				} else if e != api.ErrWreckFalse {
					t.Fatalf("Restore(%s): %d", shown(other), e)
				}
			}
			if (byteAt(restored, at) != '?') != (others == 0) {
				t.Fatalf("Restore(%s): %s, but at %v %d others agree", shown(p), shown(restored), at, others)
			}
		}
	}
}

// P9.8: with a further byte lost no fewer readings agree, and what is sure then was sure before.
func TestMoreIsLost(t *testing.T) {
	var d dice
	more, fewer := 0, 0
	for range 2000 {
		wetter, was := d.wet(5)
		lost := placesOf(wetter, true)
		if len(lost) == 0 {
			continue
		}
		at := pick(&d, lost...)
		p := withByte(wetter, at, byteAt(was, at))
		before, n := restore(t, p)
		after, m := restore(t, wetter)
		if m < n {
			t.Fatalf("%s has %d readings, %s has %d", shown(p), n, shown(wetter), m)
		}
		for _, at := range placesOf(after, false) {
			if byteAt(after, at) != byteAt(before, at) {
				t.Fatalf("%s is %s, but %s is %s", shown(p), shown(before), shown(wetter), shown(after))
			}
		}
		if m > n {
			more++
		}
		if len(placesOf(after, true)) > len(placesOf(before, true)) {
			fewer++
		}
	}
	if more < 50 || fewer < 50 {
		t.Errorf("only %d have more readings, %d fewer digits", more, fewer)
	}
}

// P9.8: if the byte that was asked for is known, at most as many readings agree as were said to be left.
func TestAsked(t *testing.T) {
	var d dice
	asked := 0
	for range 2000 {
		p, _ := d.wet(5)
		at, left, e := wreck.Ask(p)
		_, n := restore(t, p)
		if e == api.ErrNone && n == 1 {
			continue
		}
		if e != api.OK || n == 1 || byteAt(p, at) != '?' {
			t.Fatalf("Ask(%s): %v, %d, %d", shown(p), at, left, e)
		}
		asked++
		most, sum := 0, 0
		for digit := byte('0'); digit <= '9'; digit++ {
			if _, m, e := wreck.Restore(withByte(p, at, digit)); e == api.OK {
				most, sum = max(most, m), sum+m
			}
		}
		if most != left || sum != n || left >= n {
			t.Fatalf("Ask(%s): %v, %d, but %d of %d are left", shown(p), at, left, most, n)
		}
	}
	if asked < 300 {
		t.Errorf("only %d have several readings", asked)
	}
}

// bearers returns the instrument that bears each number on a day.
func bearers(t *testing.T, l []api.WreckRecord, numbers, day int) map[int]int {
	t.Helper()
	of := map[int]int{}
	for number := 1; number <= numbers; number++ {
		made, e := wreck.Trace(l, number, day)
		if e == api.OK {
			of[number] = made
		} else if e != api.ErrNone || made != 0 {
			t.Fatalf("Trace(%v, %d, %d): %d, %d", l, number, day, made, e)
		}
	}
	return of
}

// P9.9: an instrument bears at most one number, and a number is never another one's; from its making to its loss it bears one.
func TestTheNumber(t *testing.T) {
	var d dice
	for range 300 {
		numbers := d.from(1, 15)
		l := d.book(pick(&d, 10, 40), numbers)
		ever := map[int]int{}
		last := 0
		if len(l) > 0 {
			last = l[len(l)-1].Day
		}
		for day := range last + 2 {
			bearing := map[int]bool{}
			for number, made := range bearers(t, l, numbers, day) {
				if bearing[made] {
					t.Fatalf("%v: %d bears two numbers on %d", l, made, day)
				}
				bearing[made] = true
				if before, was := ever[number]; was && before != made {
					t.Fatalf("%v: %d is borne by %d, then by %d", l, number, before, made)
				}
				ever[number] = made
			}
			for _, made := range madeOf(l) {
				exists := l[made].Day <= day
				for _, r := range recordsOf(l, made) {
					exists = exists && (r.Kind != api.WreckLost || r.Day > day)
				}
				if bearing[made] != exists {
					t.Fatalf("%v: whether %d bears a number on %d: %v", l, made, day, bearing[made])
				}
			}
		}
	}
}

// changed returns claims that are another one in one thing each, but for the number.
func changed(c api.WreckClaim) []api.WreckClaim {
	maker, made, more := c, c, c
	maker.Maker, made.Made, more.Marks = c.Maker+"x", c.Made+1, append(slices.Clone(c.Marks), "cook")
	list := []api.WreckClaim{maker, made, more}
	for i := range c.Marks {
		other, fewer := c, c
		other.Marks, fewer.Marks = slices.Clone(c.Marks), c.Marks[:i:i]
		other.Marks[i] = "cook"
		list = append(list, other, fewer)
	}
	return list
}

// P9.10: a claim that was copied from the book is true; with another thing in it, it is not.
func TestTheForgery(t *testing.T) {
	var d dice
	claims, others := 0, 0
	for range 500 {
		numbers := d.from(1, 15)
		l := d.book(pick(&d, 10, 40), numbers)
		for _, made := range madeOf(l) {
			day := d.from(l[made].Day, l[len(l)-1].Day+1)
			c, bears := copied(l, made, day)
			if !bears {
				continue
			}
			claims++
			if w, e := wreck.Judge(l, c); w != why(0, 0) || e != api.OK {
				t.Fatalf("Judge(%v, %v): %v, %d", l, c, w, e)
			}
			for _, x := range changed(c) {
				if w, e := wreck.Judge(l, x); w.Kind == api.WreckTrue || e != api.OK {
					t.Fatalf("Judge(%v, %v): %v, %d, but %v is copied", l, x, w, e, c)
				}
			}
			for number := 1; number <= numbers+1; number++ {
				x := c
				x.Number = number
				other, found := slowTrace(l, number, day)
				// that another one is its twin in all but the number is the book's own doing
				if found && l[other].By == c.Maker && l[other].Day == c.Made && slices.Equal(slowMarks(l, other, day), c.Marks) {
					continue
				}
				others++
				if w, e := wreck.Judge(l, x); w.Kind == api.WreckTrue || e != api.OK {
					t.Fatalf("Judge(%v, %v): %v, %d, but %v is copied", l, x, w, e, c)
				}
			}
		}
	}
	if claims < 500 || others < 2000 {
		t.Errorf("only %d claims, %d with another number", claims, others)
	}
}

// P9.11: what was printed is parsed as it was; what is parsed is printed as it was.
func TestPrintedIsParsed(t *testing.T) {
	var d dice
	for i := range 3000 {
		var p [][]string
		if i < len(validPages()) {
			p = validPages()[i]
		} else {
			p, _ = d.wet(5)
		}
		s, e := wreck.Print(p)
		if e != api.OK {
			t.Fatalf("Print(%s): %d", shown(p), e)
		}
		if again, e := wreck.Parse(s); !reflect.DeepEqual(again, p) || e != api.OK {
			t.Fatalf("Parse(%q): %q, %d, not %q", s, again, e, p)
		}
	}
}

// P9.11: the same, of texts that may be those of a page or not.
func TestParsedIsPrinted(t *testing.T) {
	var d dice
	parsed := 0
	for range 30000 {
		p, _ := d.wet(5)
		lines := strings.ReplaceAll(shown(p), "; ", "\n") + "\n"
		if d.from(0, 3) > 0 {
			at := d.from(0, len(lines))
			lines = lines[:at] + pick(&d, "", " ", "\n", "0", "1", "?", "-", "\r", "\t", " 1", "\n1") + lines[min(at+d.from(0, 1), len(lines)):]
		}
		q, e := wreck.Parse(lines)
		if e == api.ErrForm && q == nil {
			continue
		}
		parsed++
		if s, f := wreck.Print(q); e != api.OK || s != lines || f != api.OK {
			t.Fatalf("Parse(%q): %q, %d, which is printed as %q, %d", lines, q, e, s, f)
		}
	}
	if parsed < 10000 || parsed > 25000 {
		t.Errorf("%d texts of pages", parsed)
	}
}
