package desk_test

import (
	"math"
	"reflect"
	"slices"
	"strings"
	"testing"

	"octant/api"
	"octant/desk"
)

func span(low, high int) api.Span { return api.Span{Low: low, High: high} }

// shopHead, shopSextant and shopSetup are those of the document's examples.
func shopHead() api.IndexHead { return api.IndexHead{Teeth: 40, Circles: []int{15, 18, 21}} }

func shopSextant() api.Sextant {
	return api.Sextant{
		Step:  36000,
		Table: []api.Span{span(0, 0), span(-10, 10), span(20, 40)},
		Index: span(-30, -20),
		Wrong: 5,
		Shade: []api.Span{span(0, 6), span(-4, 4)},
	}
}

func coarseSextant() api.Sextant {
	s := shopSextant()
	s.Index = span(-300, -20)
	return s
}

func shopSetup() api.DeskSetup {
	return api.DeskSetup{
		Head: shopHead(),
		Models: []api.DeskModel{
			{Name: "quint", Sextant: shopSextant(), Lines: 28, Price: 90},
			{Name: "coarse", Sextant: coarseSextant(), Lines: 11, Price: 40},
		},
		Bound: 70130,
		Day:   5,
	}
}

// with returns the setup of the examples with a change.
func with(change func(s *api.DeskSetup)) api.DeskSetup {
	s := shopSetup()
	change(&s)
	return s
}

// withModel returns the setup of the examples with a change of its second model.
func withModel(change func(m *api.DeskModel)) api.DeskSetup {
	return with(func(s *api.DeskSetup) { change(&s.Models[1]) })
}

// manyModels returns models with different names.
func manyModels(count int) []api.DeskModel {
	var l []api.DeskModel
	for i := range count {
		m := shopSetup().Models[i%2]
		m.Name = "m" + string(rune('a'+i))
		l = append(l, m)
	}
	return l
}

func validNames() []string {
	return []string{"a", "z", "a0", "a9", "az", "a-", "a--", "quint-2", "abcdefghijklmnop", "z-0123456789-abc"}
}

func invalidNames() []string {
	return []string{
		"", "0", "-", "A", "9a", "-a", "aA", "Aa", "a_", "a.", "a b", " a", "a ", "a,b", "a\n", "a\x00", "\x00a", "a/", "a:", "a`", "a{", "`", "{", "é", "aé", "a\xff", "\xff",
		"abcdefghijklmnopq", strings.Repeat("a", 17), strings.Repeat("a", 100000),
	}
}

// numbersOff returns numbers that are not from low to high.
func numbersOff(low, high int) []int { return []int{low - 1, high + 1, math.MinInt, math.MaxInt} }

func validSetups() []api.DeskSetup {
	list := []api.DeskSetup{
		shopSetup(),
		with(func(s *api.DeskSetup) { s.Models = nil }),
		with(func(s *api.DeskSetup) { s.Models = []api.DeskModel{} }),
		with(func(s *api.DeskSetup) { s.Models = manyModels(6) }),
		with(func(s *api.DeskSetup) { s.Head = api.IndexHead{Teeth: 1, Circles: []int{2}} }),
		with(func(s *api.DeskSetup) { s.Models[0].Name = "coarse-2" }),
		withModel(func(m *api.DeskModel) { m.Sextant = shopSextant() }),
		withModel(func(m *api.DeskModel) { m.Sextant.Shade = nil }),
	}
	for _, name := range validNames() {
		list = append(list, withModel(func(m *api.DeskModel) { m.Name = name }))
	}
	for _, x := range []int{0, 1, 129599999, 129600000} {
		list = append(list, with(func(s *api.DeskSetup) { s.Bound = x }))
	}
	for _, x := range []int{0, 1, 99999, 100000} {
		list = append(list, with(func(s *api.DeskSetup) { s.Day = x }))
	}
	for _, x := range []int{1, 2, 1999, 2000} {
		list = append(list, withModel(func(m *api.DeskModel) { m.Lines = x }))
	}
	for _, x := range []int{0, 1, 999, 1000} {
		list = append(list, withModel(func(m *api.DeskModel) { m.Price = x }))
	}
	return list
}

func invalidSetups() []api.DeskSetup {
	list := []api.DeskSetup{
		{},
		with(func(s *api.DeskSetup) { s.Models = manyModels(7) }),
		with(func(s *api.DeskSetup) { s.Models[0].Name = "coarse" }),
		with(func(s *api.DeskSetup) { s.Models = append(manyModels(5), manyModels(1)...) }),
		with(func(s *api.DeskSetup) { s.Head.Teeth = 0 }),
		with(func(s *api.DeskSetup) { s.Head.Teeth = 401 }),
		with(func(s *api.DeskSetup) { s.Head.Circles = nil }),
		with(func(s *api.DeskSetup) { s.Head.Circles[1] = 15 }),
		with(func(s *api.DeskSetup) { s.Models[0].Sextant = api.Sextant{} }),
		withModel(func(m *api.DeskModel) { m.Sextant.Wrong = 61 }),
		withModel(func(m *api.DeskModel) { m.Sextant.Index = span(-20, -30) }),
		withModel(func(m *api.DeskModel) { m.Sextant.Table[2].High = 601 }),
		withModel(func(m *api.DeskModel) { m.Sextant.Shade = make([]api.Span, 7) }),
	}
	for _, name := range invalidNames() {
		list = append(list, withModel(func(m *api.DeskModel) { m.Name = name }))
	}
	for _, x := range numbersOff(0, 129600000) {
		list = append(list, with(func(s *api.DeskSetup) { s.Bound = x }))
	}
	for _, x := range numbersOff(0, 100000) {
		list = append(list, with(func(s *api.DeskSetup) { s.Day = x }))
	}
	for _, x := range numbersOff(1, 2000) {
		list = append(list, withModel(func(m *api.DeskModel) { m.Lines = x }))
	}
	for _, x := range numbersOff(0, 1000) {
		list = append(list, withModel(func(m *api.DeskModel) { m.Price = x }))
	}
	return list
}

// opened returns a new desk with a setup that is valid.
func opened(t *testing.T, s api.DeskSetup) *desk.Desk {
	t.Helper()
	d, e := desk.New(s)
	if d == nil || e != api.OK {
		t.Fatalf("New(%v): %v, %d", s, d, e)
	}
	return d
}

// state is all that a desk tells of itself.
type state struct {
	journal  []string
	day      int
	pieces   []api.DeskPiece
	records  []api.WreckRecord
	sextants []api.Sextant
}

func stateOf(t *testing.T, d *desk.Desk) state {
	t.Helper()
	s := state{journal: d.Journal(), day: d.Day(), pieces: d.Pieces(), records: d.Records()}
	for i := range s.pieces {
		own, e := d.Sextant(i)
		if e != api.OK {
			t.Fatalf("Sextant(%d): %d", i, e)
		}
		s.sextants = append(s.sextants, own)
	}
	return s
}

// same reports whether two states are equal, an empty list being like none.
func same(a, b state) bool {
	return slices.Equal(a.journal, b.journal) && a.day == b.day && slices.Equal(a.pieces, b.pieces) &&
		slices.Equal(a.records, b.records) && slices.EqualFunc(a.sextants, b.sextants, sameSextant)
}

func sameSextant(a, b api.Sextant) bool {
	return a.Step == b.Step && slices.Equal(a.Table, b.Table) && a.Index == b.Index && a.Wrong == b.Wrong && slices.Equal(a.Shade, b.Shade)
}

// P11.1
func TestCheckAndNew(t *testing.T) {
	for _, s := range validSetups() {
		if e := desk.Check(s); e != api.OK {
			t.Errorf("Check(%v): %d", s, e)
		}
		d, e := desk.New(s)
		if d == nil || e != api.OK {
			t.Errorf("New(%v): %v, %d", s, d, e)
			continue
		}
		if got, want := stateOf(t, d), (state{day: s.Day}); !same(got, want) {
			t.Errorf("New(%v): %v", s, got)
		}
	}
	for _, s := range invalidSetups() {
		if e := desk.Check(s); e != api.ErrDesk {
			t.Errorf("Check(%v): %d", s, e)
		}
		if d, e := desk.New(s); d != nil || e != api.ErrDesk {
			t.Errorf("New(%v): %v, %d", s, d, e)
		}
	}
}

// P11.1: desks that New did not return.
func TestNoDesk(t *testing.T) {
	d := opened(t, shopSetup())
	if _, e := d.Do("make 101 quint bird"); e != api.OK {
		t.Fatalf("make: %d", e)
	}
	copied := *d
	for name, none := range map[string]*desk.Desk{"nil": nil, "zero": {}, "copied": &copied} {
		for _, line := range []string{"", "day 6", "class 101", "make 102 quint bird", "make 102 quint"} {
			if answer, e := none.Do(line); answer != "" || e != api.ErrNil {
				t.Errorf("%s: Do(%q): %q, %d", name, line, answer, e)
			}
		}
		for _, piece := range []int{-1, 0, 1} {
			if s, e := none.Sextant(piece); !reflect.DeepEqual(s, api.Sextant{}) || e != api.ErrNil {
				t.Errorf("%s: Sextant(%d): %v, %d", name, piece, s, e)
			}
		}
		if l := none.Journal(); len(l) != 0 {
			t.Errorf("%s: Journal: %q", name, l)
		}
		if day := none.Day(); day != 0 {
			t.Errorf("%s: Day: %d", name, day)
		}
		if l := none.Pieces(); len(l) != 0 {
			t.Errorf("%s: Pieces: %v", name, l)
		}
		if l := none.Records(); len(l) != 0 {
			t.Errorf("%s: Records: %v", name, l)
		}
	}
	if l := d.Journal(); len(l) != 1 {
		t.Errorf("the desk that was copied: %q", l)
	}
}

// shopLines are the lines of the examples that change the desk, up to the last one of these.
func shopLines() []string {
	return []string{
		"make 101 quint bird", "make 102 coarse sisson", "try 102 36000 0 35985", "try 102 72000 0 72010",
		"sell 102 cook", "day 10", "lose 102", "mend 101 dollond", "again 101 205",
	}
}

// P11.3
func TestWhatTheDeskHas(t *testing.T) {
	d := opened(t, shopSetup())
	for _, line := range shopLines() {
		for _, other := range []string{"sell 7 cook", "class 7", "cut 11", ""} {
			d.Do(other)
		}
		if _, e := d.Do(line); e != api.OK {
			t.Errorf("%q: %d", line, e)
		}
	}
	got := stateOf(t, d)
	want := state{
		journal: shopLines(),
		day:     10,
		pieces: []api.DeskPiece{
			{Number: 205, Model: 0, Mends: 1},
			{Number: 102, Model: 1, Owner: "cook", Lost: true, Trials: 2},
		},
		records: []api.WreckRecord{
			{Kind: api.WreckMade, Day: 5, Number: 101, By: "bird"},
			{Kind: api.WreckMade, Day: 5, Number: 102, By: "sisson"},
			{Kind: api.WreckLost, Day: 10, Number: 102},
			{Kind: api.WreckMend, Day: 10, Number: 101, By: "dollond"},
			{Kind: api.WreckAgain, Day: 10, Number: 101, New: 205},
		},
		sextants: []api.Sextant{shopSextant(), triedSextant()},
	}
	if !same(got, want) {
		t.Errorf("the desk has %v, not %v", got, want)
	}
}

// triedSextant is the sextant of 102 in the examples, behind both its trials: with i as the index error, the correction at 36000 is from -20 less i to -10 less i, that at 72000 from 5 less i to 15 less i.
func triedSextant() api.Sextant {
	s := coarseSextant()
	s.Table, s.Index = []api.Span{span(0, 0), span(0, 10), span(25, 40)}, span(-30, -20)
	return s
}

// P11.3
func TestSextantsOfPieces(t *testing.T) {
	d := opened(t, shopSetup())
	off := func(count int) {
		for _, piece := range append(numbersOff(0, count-1), count+1, 101, 102) {
			if s, e := d.Sextant(piece); !reflect.DeepEqual(s, api.Sextant{}) || e != api.ErrDeskUnknown {
				t.Errorf("Sextant(%d) of %d: %v, %d", piece, count, s, e)
			}
		}
	}
	want := func(piece int, want api.Sextant) {
		t.Helper()
		if s, e := d.Sextant(piece); !sameSextant(s, want) || e != api.OK {
			t.Errorf("Sextant(%d): %v, %d", piece, s, e)
		}
	}
	off(0)
	d.Do("make 101 quint bird")
	off(1)
	d.Do("make 102 coarse sisson")
	off(2)
	want(0, shopSextant())
	want(1, coarseSextant())
	d.Do("try 102 36000 0 35985")
	d.Do("try 102 72000 0 72010")
	want(0, shopSextant())
	want(1, triedSextant())
	d.Do("sell 102 cook")
	want(1, triedSextant())
	d.Do("lose 102")
	want(1, triedSextant())
	off(2)
	d.Do("try 101 0 3 0")
	d.Do("mend 101 bird")
	want(0, shopSextant())
}

// P11.3: instruments keep their places, whatever numbers they get.
func TestOrderOfPieces(t *testing.T) {
	d := opened(t, shopSetup())
	for _, line := range []string{"make 300 quint bird", "make 100 coarse bird", "make 200 quint bird", "again 300 50", "sell 200 cook", "lose 200", "again 100 301"} {
		if _, e := d.Do(line); e != api.OK {
			t.Errorf("%q: %d", line, e)
		}
	}
	want := []api.DeskPiece{{Number: 50}, {Number: 301, Model: 1}, {Number: 200, Owner: "cook", Lost: true}}
	if l := d.Pieces(); !slices.Equal(l, want) {
		t.Errorf("Pieces: %v", l)
	}
}

// P11.4
func TestReplay(t *testing.T) {
	good := shopLines()
	for count := range len(good) + 1 {
		d, at, e := desk.Replay(shopSetup(), good[:count])
		if d == nil || at != count || e != api.OK {
			t.Fatalf("Replay of %d lines: %v, %d, %d", count, d, at, e)
		}
		want := opened(t, shopSetup())
		for _, line := range good[:count] {
			want.Do(line)
		}
		if got, want := stateOf(t, d), stateOf(t, want); !same(got, want) {
			t.Errorf("Replay of %d lines: %v, not %v", count, got, want)
		}
		if _, e := d.Do("day 99"); e != api.OK {
			t.Errorf("a line behind a replay: %d", e)
		}
	}
	if d, at, e := desk.Replay(shopSetup(), nil); d == nil || at != 0 || e != api.OK {
		t.Errorf("Replay of nothing: %v, %d, %d", d, at, e)
	}
	for _, x := range []struct {
		line string
		e    api.Errno
	}{
		{"", api.ErrDeskLine}, {"day", api.ErrDeskLine}, {"day 4", api.ErrRange}, {"sell 7 cook", api.ErrDeskUnknown}, {"make 101 quint Bird", api.ErrForm}, {"make 101 quint", api.ErrDeskLine},
		// all that ask, whatever they would be answered
		{"read 7 0 0", api.ErrDeskLine}, {"class 7", api.ErrDeskLine}, {"who 7", api.ErrDeskLine}, {"cut 11", api.ErrDeskLine}, {"cut 0", api.ErrDeskLine}, {"trace 101 5", api.ErrDeskLine}, {"judge 101 5 bird 5", api.ErrDeskLine}, {"judge 101 5 bird 5 dollond", api.ErrDeskLine}, {"judge 0 5 bird 5", api.ErrDeskLine}, {"class 101", api.ErrDeskLine}, {"class", api.ErrDeskLine},
	} {
		for at := range len(good) + 1 {
			// behind it there is another error
			lines := slices.Concat(good[:at], []string{x.line}, good[at:], []string{"day 100001"})
			if d, where, e := desk.Replay(shopSetup(), lines); d != nil || where != at || e != x.e {
				t.Errorf("Replay with %q at %d: %v, %d, %d", x.line, at, d, where, e)
			}
		}
	}
	for _, s := range invalidSetups() {
		for _, lines := range [][]string{nil, good, {"day"}, {"day 9", ""}} {
			if d, at, e := desk.Replay(s, lines); d != nil || at != 0 || e != api.ErrDesk {
				t.Errorf("Replay(%v, %q): %v, %d, %d", s, lines, d, at, e)
			}
		}
	}
}

// P11.4: a journal that is too long.
func TestReplayOfManyLines(t *testing.T) {
	lines := slices.Repeat([]string{"day 5"}, 151)
	if d, at, e := desk.Replay(shopSetup(), lines[:150]); d == nil || at != 150 || e != api.OK || len(d.Journal()) != 150 {
		t.Errorf("Replay of 150 lines: %v, %d, %d", d, at, e)
	}
	if d, at, e := desk.Replay(shopSetup(), lines); d != nil || at != 150 || e != api.ErrFull {
		t.Errorf("Replay of 151 lines: %v, %d, %d", d, at, e)
	}
	lines[150] = "class 101"
	if d, at, e := desk.Replay(shopSetup(), lines); d != nil || at != 150 || e != api.ErrDeskLine {
		t.Errorf("Replay of 150 lines and of one that asks: %v, %d, %d", d, at, e)
	}
}
