package desk_test

import (
	"fmt"
	"math"
	"reflect"
	"slices"
	"strings"
	"testing"
	"unsafe"

	"octant/api"
	"octant/desk"
	"octant/index"
	"octant/sextant"
	"octant/wreck"
)

// smallSextant returns a sextant with a small table, of which trials are often so and often not.
func smallSextant(d *dice) api.Sextant {
	within := func(low, high int) api.Span {
		x := d.from(low, high)
		return span(x, d.from(x, high))
	}
	s := api.Sextant{Step: pick(d, 1, 7, 100), Index: within(-40, 250), Wrong: d.from(0, 8)}
	for range d.from(2, 4) {
		s.Table = append(s.Table, within(-60, 60))
	}
	for range d.from(0, 3) {
		s.Shade = append(s.Shade, within(-5, 5))
	}
	return s
}

// anySetup returns a setup that is valid.
func anySetup(d *dice) api.DeskSetup {
	s := api.DeskSetup{Head: shopHead(), Bound: pick(d, 0, 60000, 70130, 100000, 129600000), Day: pick(d, 0, 5, 99990)}
	for i := range d.from(1, 6) {
		s.Models = append(s.Models, api.DeskModel{Name: names()[i], Sextant: smallSextant(d), Lines: pick(d, 28, 11, 7, 9, 1999), Price: d.from(0, 1000)})
	}
	return s
}

func names() []string { return []string{"a", "quint", "b-1", "bird", "coarse", "dollond"} }

// writer writes lines of which many can be done on a desk.
type writer struct {
	*dice
	setup api.DeskSetup
	desk  *slowDesk
	words []string
}

// anyWriter returns a writer that prefers some words to others.
func anyWriter(d *dice, s api.DeskSetup) *writer {
	w := &writer{dice: d, setup: s, desk: &slowDesk{setup: s}}
	for _, form := range goodLines() {
		word, _, _ := strings.Cut(form, " ")
		w.words = append(w.words, slices.Repeat([]string{word}, pick(d, 1, 1, 2, 5))...)
	}
	return w
}

// number returns a number of an instrument: often one that some instrument has, or had.
func (w *writer) number() int {
	h := w.desk.history()
	if len(h.pieces) == 0 || w.from(0, 5) == 0 {
		return pick(w.dice, 0, 1, 2, 3, 4, 99999, 100000, 999999, w.from(1, 30))
	}
	p := h.pieces[w.from(0, len(h.pieces)-1)]
	if w.from(0, 9) > 0 {
		return p.number()
	}
	return p.bearings[0].number
}

func (w *writer) fresh() int {
	return pick(w.dice, w.from(1, 99999), w.from(1, 99999), w.from(0, 30), 100000)
}

func (w *writer) day() int {
	if now := w.desk.history().day; w.from(0, 9) > 0 {
		return max(now+w.from(-6, 3), 0)
	}
	return pick(w.dice, 0, 5, 99990, 100000, 100001, 999999)
}

// later returns a day that has mostly not passed yet.
func (w *writer) later() int {
	if w.from(0, 99) == 0 {
		return w.day()
	}
	return w.desk.history().day + w.from(-1, 4)
}

func (w *writer) name() string {
	if w.from(0, 14) == 0 {
		return pick(w.dice, "Bird", "0", "a,b", "\xff", strings.Repeat("a", 17))
	}
	return pick(w.dice, names()...)
}

// reading returns the angle and the shades of a reading of an instrument, and an angle near by.
func (w *writer) reading(number int) (at, shades, near int) {
	s := w.setup.Models[0].Sextant
	if p := w.desk.history().find(number); p != nil {
		s = w.setup.Models[p.model].Sextant
	}
	at = w.from(0, len(s.Table)-1) * s.Step
	shades = w.from(0, 1<<len(s.Shade)-1)
	if w.from(0, 14) == 0 {
		at, shades = at+w.from(-1, 300), shades+pick(w.dice, 0, 1, 8, 64, 999000)
	}
	angle, _ := sextant.Read(s, api.SextantReading{At: at, Shades: shades})
	return max(at, 0), shades, max(angle.Low+w.from(-3, angle.High-angle.Low+3), 0)
}

// line returns one that has the form.
func (w *writer) line() string {
	word, n := pick(w.dice, w.words...), w.number()
	at, shades, near := w.reading(n)
	switch word {
	case "day":
		return fmt.Sprint("day ", w.later())
	case "make":
		return fmt.Sprint("make ", w.fresh(), " ", w.setup.Models[w.from(0, len(w.setup.Models)-1)].Name, " ", w.name())
	case "try":
		return fmt.Sprint("try ", n, " ", at, " ", shades, " ", near)
	case "sell", "mend":
		return fmt.Sprint(word, " ", n, " ", w.name())
	case "again":
		return fmt.Sprint("again ", n, " ", w.fresh())
	case "read":
		return fmt.Sprint("read ", n, " ", at, " ", shades)
	case "cut":
		return fmt.Sprint("cut ", pick(w.dice, 0, 1, 7, 11, 2000, 2001, 999999))
	case "trace":
		return fmt.Sprint("trace ", n, " ", w.day())
	case "judge":
		return w.claim(n)
	}
	return fmt.Sprint(word, " ", n)
}

// claim returns a line that asks for a claim, which is often nearly true.
func (w *writer) claim(n int) string {
	day, maker, made, marks := w.day(), w.name(), w.day(), []string{w.name()}
	if p := w.desk.history().bore(n, day); p != nil && w.from(0, 3) > 0 {
		maker, made, marks = p.maker, p.made, nil
		for _, m := range p.marks {
			if m.day <= day || w.from(0, 9) == 0 {
				marks = append(marks, m.by)
			}
		}
	}
	if w.from(0, 5) == 0 {
		marks = append(marks, w.name())
	}
	return strings.TrimSuffix(fmt.Sprint("judge ", n, " ", day, " ", maker, " ", made, " ", strings.Join(marks, ",")), " ")
}

// spoilt returns a line that may not have the form any more.
func (w *writer) spoilt(line string) string {
	at := w.from(0, len(line))
	more := pick(w.dice, " ", "0", "a", "\n", "-", ",", "\x00", "\xff", " 7", "7 ")
	if w.from(0, 1) == 0 || at == len(line) {
		return line[:at] + more + line[at:]
	}
	return line[:at] + line[at+1:]
}

// walk does lines, one after the other, on a desk and slowly, and calls a function for each of them.
func walk(t *testing.T, seed, count int, see func(d *desk.Desk, slow *slowDesk, line, answer string, e api.Errno)) {
	t.Helper()
	chance := dice(seed)
	s := anySetup(&chance)
	w := anyWriter(&chance, s)
	d := opened(t, s)
	for range count {
		line := w.line()
		if w.from(0, 29) == 0 {
			line = w.spoilt(line)
		}
		answer, e := d.Do(line)
		want, problem := w.desk.do(line)
		if answer != want || e != problem {
			t.Fatalf("seed %d: Do(%q) behind %q: %q, %d, not %q, %d", seed, line, w.desk.journal, answer, e, want, problem)
		}
		see(d, w.desk, line, answer, e)
	}
}

// P11.2, P11.3: whatever is done, the desk answers and has what a slow one does; and each answer and each error is met.
func TestAgainstSlowDesk(t *testing.T) {
	met := map[string]int{}
	for seed := range 60 {
		walk(t, seed, 700, func(d *desk.Desk, slow *slowDesk, line, answer string, e api.Errno) {
			word, _, _ := strings.Cut(line, " ")
			met[fmt.Sprint(word, e)]++
			if got, want := stateOf(t, d), slow.state(); !same(got, want) {
				t.Fatalf("seed %d: behind %q the desk has %v, not %v", seed, line, got, want)
			}
		})
	}
	for _, x := range []struct {
		word string
		list []api.Errno
	}{
		{"day", []api.Errno{api.ErrFull, api.ErrRange}},
		{"make", []api.Errno{api.ErrFull, api.ErrForm, api.ErrRange, api.ErrDeskTwice, api.ErrDeskCut}},
		{"try", []api.Errno{api.ErrFull, api.ErrDeskUnknown, api.ErrDeskPlace, api.ErrDeskTrial, api.ErrDeskFalse}},
		{"sell", []api.Errno{api.ErrFull, api.ErrDeskUnknown, api.ErrDeskPlace, api.ErrForm, api.ErrDeskClass}},
		{"back", []api.Errno{api.ErrFull, api.ErrDeskUnknown, api.ErrDeskPlace}},
		{"mend", []api.Errno{api.ErrFull, api.ErrDeskUnknown, api.ErrDeskPlace, api.ErrForm}},
		{"again", []api.Errno{api.ErrFull, api.ErrDeskUnknown, api.ErrDeskPlace, api.ErrRange, api.ErrDeskTwice}},
		{"lose", []api.Errno{api.ErrFull, api.ErrDeskUnknown, api.ErrDeskPlace}},
		{"read", []api.Errno{api.ErrDeskUnknown, api.ErrDeskTrial}},
		{"class", []api.Errno{api.ErrDeskUnknown}},
		{"who", []api.Errno{api.ErrDeskUnknown}},
		{"cut", []api.Errno{api.ErrRange}},
		{"trace", []api.Errno{api.ErrRange, api.ErrNone}},
		{"judge", []api.Errno{api.ErrDeskClaim}},
	} {
		for _, e := range append(x.list, api.OK, api.ErrDeskLine) {
			if met[fmt.Sprint(x.word, e)] == 0 {
				t.Errorf("no line %q has met %d", x.word, e)
			}
		}
	}
}

// shopQuestions are lines that ask of all that can be asked.
func shopQuestions(d *desk.Desk) []string {
	list := []string{"cut 11", "cut 0", "class 7"}
	for _, r := range d.Records() {
		for _, n := range []int{r.Number, r.New} {
			for _, day := range []int{r.Day - 1, r.Day, d.Day()} {
				list = append(list, fmt.Sprint("trace ", n, " ", max(day, 0)), fmt.Sprint("judge ", n, " ", max(day, 0), " bird ", r.Day))
			}
			list = append(list, fmt.Sprint("class ", n), fmt.Sprint("who ", n), fmt.Sprint("read ", n, " 1 1"))
		}
	}
	return list
}

// P11.6
func TestTheShop(t *testing.T) {
	for seed := range 60 {
		var states []state // behind each line of the journal
		var last *desk.Desk
		var setup api.DeskSetup
		walk(t, seed, 200, func(d *desk.Desk, slow *slowDesk, line, answer string, e api.Errno) {
			if now := stateOf(t, d); len(now.journal) > len(states) {
				states = append(states, now)
			}
			last, setup = d, slow.setup
		})
		journal := last.Journal()
		if len(journal) != len(states) {
			t.Fatalf("seed %d: %d lines in the journal, and %d states", seed, len(journal), len(states))
		}
		for i := range states {
			d, at, e := desk.Replay(setup, journal[:i+1])
			if e != api.OK || at != i+1 {
				t.Fatalf("seed %d: Replay of %q: %d, %d", seed, journal[:i+1], at, e)
			}
			if got := stateOf(t, d); !same(got, states[i]) {
				t.Errorf("seed %d: behind the line %d the replayed desk has %v, not %v", seed, i, got, states[i])
			}
		}
		d, _, _ := desk.Replay(setup, journal)
		for _, line := range shopQuestions(last) {
			want, problem := last.Do(line)
			if answer, e := d.Do(line); answer != want || e != problem {
				t.Errorf("seed %d: the replayed desk answers %q by %q, %d, not %q, %d", seed, line, answer, e, want, problem)
			}
		}
	}
}

// P11.7
func TestTheBook(t *testing.T) {
	for seed := range 60 {
		walk(t, seed, 200, func(d *desk.Desk, slow *slowDesk, line, answer string, e api.Errno) {
			if asks(line) || e != api.OK {
				return
			}
			records := d.Records()
			if e := wreck.CheckBook(records); e != api.OK {
				t.Fatalf("seed %d: behind %q the records are no book: %v", seed, line, records)
			}
			pieces := d.Pieces()
			which := -1
			for i, r := range records {
				if r.Kind != api.WreckMade {
					continue
				}
				which++
				p := pieces[which]
				if p.Lost {
					continue
				}
				if made, e := wreck.Trace(records, p.Number, d.Day()); made != i || e != api.OK {
					t.Errorf("seed %d: %v is traced to the record %d, %d, not %d", seed, p, made, e, i)
				}
				if answer, e := d.Do(fmt.Sprint("trace ", p.Number, " ", d.Day())); answer != fmt.Sprint(p.Number) || e != api.OK {
					t.Errorf("seed %d: %v is traced: %q, %d", seed, p, answer, e)
				}
				claim := fmt.Sprint("judge ", p.Number, " ", d.Day(), " ", r.By, " ", r.Day)
				for k, name := range marksOf(records[i:]) {
					claim += []string{",", " "}[max(1-k, 0)] + name
				}
				if answer, e := d.Do(claim); len(claim) <= 400 && (answer != "0 0" || e != api.OK) {
					t.Errorf("seed %d: %q is judged: %q, %d", seed, claim, answer, e)
				}
			}
		})
	}
}

// marksOf returns who repaired the instrument of the first record.
func marksOf(records []api.WreckRecord) []string {
	var list []string
	number := records[0].Number
	for _, r := range records[1:] {
		if r.Number != number {
			continue
		}
		switch r.Kind {
		case api.WreckMend:
			list = append(list, r.By)
		case api.WreckAgain:
			number = r.New
		}
	}
	return list
}

// P11.8
func TestTheArc(t *testing.T) {
	made := 0
	for seed := range 60 {
		walk(t, seed, 100, func(d *desk.Desk, slow *slowDesk, line, answer string, e api.Errno) {
			if e != api.OK || !strings.HasPrefix(line, "make ") {
				return
			}
			made++
			pieces := d.Pieces()
			model := slow.setup.Models[pieces[len(pieces)-1].Model]
			circle, _, _ := index.Best(slow.setup.Head, model.Lines)
			holes, engraved, _ := index.Cut(slow.setup.Head, circle, model.Lines)
			round := slow.setup.Head.Teeth * slow.setup.Head.Circles[circle]
			for k, p := range holes {
				wrong := p*model.Lines - k*round
				if max(wrong, -wrong)*api.IndexTurn > slow.setup.Bound*model.Lines*round {
					t.Errorf("seed %d: the line %d of %q errs by more than %d", seed, k, line, slow.setup.Bound)
				}
			}
			if answer != fmt.Sprint(engraved) {
				t.Errorf("seed %d: %q is answered by %q, not by %d", seed, line, answer, engraved)
			}
		})
	}
	if made < 100 {
		t.Errorf("only %d instruments were made", made)
	}
}

// spansOf returns all spans of a sextant that can be read.
func spansOf(t *testing.T, s api.Sextant) []api.Span {
	t.Helper()
	var list []api.Span
	for at := range s.Step*(len(s.Table)-1) + 1 {
		for shades := range 1 << len(s.Shade) {
			angle, e := sextant.Read(s, api.SextantReading{At: at, Shades: shades})
			if e != api.OK {
				t.Fatalf("Read(%v, %d, %d): %d", s, at, shades, e)
			}
			list = append(list, angle)
		}
	}
	return list
}

// P11.9
func TestTheSale(t *testing.T) {
	sold, tried := 0, 0
	for seed := range 100 {
		var before map[int]api.Sextant // by the index of an instrument
		walk(t, seed, 120, func(d *desk.Desk, slow *slowDesk, line, answer string, e api.Errno) {
			after := map[int]api.Sextant{}
			for i, p := range d.Pieces() {
				after[i], _ = d.Sextant(i)
				words := strings.Split(line, " ")
				if e != api.OK || p.Lost || words[1] != fmt.Sprint(p.Number) {
					continue
				}
				class, _, _ := sextant.Class(after[i])
				switch words[0] {
				case "sell":
					sold++
					if class == 3 {
						t.Errorf("seed %d: %q is of the third class", seed, line)
					}
				case "try":
					tried++
					if was, _, _ := sextant.Class(before[i]); class > was {
						t.Errorf("seed %d: %q makes the class %d of %d", seed, line, class, was)
					}
					wide, narrow := spansOf(t, before[i]), spansOf(t, after[i])
					for k := range wide {
						if narrow[k].Low < wide[k].Low || narrow[k].High > wide[k].High {
							t.Errorf("seed %d: %q makes %v of %v", seed, line, narrow[k], wide[k])
						}
					}
				}
			}
			before = after
		})
	}
	if sold < 100 || tried < 100 {
		t.Errorf("only %d sales and %d trials", sold, tried)
	}
}

// P11.10
func TestWhereInstrumentsAre(t *testing.T) {
	done := map[string]int{}
	for seed := range 100 {
		var before []api.DeskPiece
		walk(t, seed, 200, func(d *desk.Desk, slow *slowDesk, line, answer string, e api.Errno) {
			after := d.Pieces()
			word, _, _ := strings.Cut(line, " ")
			for i, p := range after {
				if i >= len(before) {
					done[word]++
					if word != "make" || p.Owner != "" || p.Lost || p.Mends != 0 || p.Trials != 0 {
						t.Errorf("seed %d: %q makes %v", seed, line, p)
					}
					continue
				}
				was := before[i]
				if p == was {
					continue
				}
				done[word]++
				inside := was.Owner == ""
				if was.Lost || slices.Contains([]string{"try", "mend", "again", "sell"}, word) != inside || slices.Contains([]string{"lose", "back"}, word) == inside {
					t.Errorf("seed %d: %q makes %v of %v", seed, line, p, was)
				}
			}
			before = after
		})
	}
	for _, word := range []string{"make", "try", "mend", "again", "sell", "lose", "back"} {
		if done[word] < 20 {
			t.Errorf("%q was done only %d times", word, done[word])
		}
	}
}

// roomy returns a list with room behind it, so that an append to it would show.
func roomy[T any](l []T) []T {
	big := make([]T, len(l), len(l)+4)
	copy(big, l)
	return big
}

// roomySetup returns the setup of the examples, all of whose lists have room behind them.
func roomySetup() api.DeskSetup {
	s := shopSetup()
	s.Head.Circles, s.Models = roomy(s.Head.Circles), roomy(s.Models)
	for i := range s.Models {
		own := &s.Models[i].Sextant
		own.Table, own.Shade = roomy(own.Table), roomy(own.Shade)
	}
	return s
}

// behind returns what lies in, and behind, the lists of a setup.
func behind(s api.DeskSetup) []any {
	list := []any{s.Head.Circles[:cap(s.Head.Circles)], s.Models[:cap(s.Models)]}
	for _, m := range s.Models {
		list = append(list, m.Sextant.Table[:cap(m.Sextant.Table)], m.Sextant.Shade[:cap(m.Sextant.Shade)])
	}
	return list
}

// spoil changes all that lies in, and behind, a list.
func spoil[T any](wrong T, list []T) {
	list = list[:cap(list)]
	for i := range list {
		list[i] = wrong
	}
}

func spoilSextant(s api.Sextant) {
	spoil(span(-77, -77), s.Table)
	spoil(span(-77, -77), s.Shade)
}

func spoilSetup(s api.DeskSetup) {
	spoil(-77, s.Head.Circles)
	for _, m := range s.Models {
		spoilSextant(m.Sextant)
	}
	spoil(api.DeskModel{Name: "spoilt"}, s.Models)
}

// P11.5: a setup and lines are only read, and not retained.
func TestArgumentsAreCopied(t *testing.T) {
	want := opened(t, shopSetup())
	mustDo(t, want, shopLines()...)

	s := roomySetup()
	if e := desk.Check(s); e != api.OK {
		t.Errorf("Check: %d", e)
	}
	d := opened(t, s)
	lines := roomy(shopLines())
	replayed, _, e := desk.Replay(s, lines)
	if e != api.OK {
		t.Fatalf("Replay: %d", e)
	}
	half, _, _ := desk.Replay(s, lines[:4])
	mustDo(t, d, shopLines()...)
	if !reflect.DeepEqual(behind(s), behind(roomySetup())) || !slices.Equal(lines[:cap(lines)], roomy(shopLines())[:cap(lines)]) {
		t.Errorf("the arguments are changed: %v, %q", s, lines)
	}
	spoilSetup(s)
	spoil("spoilt", lines)
	mustDo(t, half, shopLines()[4:]...)
	for i, d := range []*desk.Desk{d, replayed, half} {
		if got, want := stateOf(t, d), stateOf(t, want); !same(got, want) {
			t.Errorf("the desk %d changes with its setup, or its lines: %v, not %v", i, got, want)
		}
		follow(t, d, step{"make 3 coarse bird", "70130", api.OK}, step{"cut 11", "2 70130", api.OK}, step{"class 3", "3 324", api.OK}, step{"read 3 36000 3", "35681 36005", api.OK}, step{"try 3 36000 0 35985", "2", api.OK}, step{"make 4 spoilt bird", "", api.ErrDeskUnknown})
	}
}

// P11.5: what a desk returns shares no memory with what it keeps, nor with what it returns again.
func TestResultsAreNew(t *testing.T) {
	d := opened(t, shopSetup())
	check := func() {
		t.Helper()
		other := stateOf(t, d)
		want := other.clone()
		spoil("spoilt", other.journal)
		spoil(api.DeskPiece{Number: -77}, other.pieces)
		spoil(api.WreckRecord{Kind: -77}, other.records)
		for _, s := range other.sextants {
			spoilSextant(s)
		}
		if got := stateOf(t, d); !same(got, want) {
			t.Errorf("the desk changes with its results: %v, not %v", got, want)
		}
	}
	for _, line := range append(shopLines(), "make 7 coarse bird", "try 7 36000 0 35985", "sell 7 cook", "back 7", "try 7 72000 0 72010") {
		check()
		mustDo(t, d, line)
		check()
	}
	// the table and the shades of a sextant lie apart
	for piece := range d.Pieces() {
		want, _ := d.Sextant(piece)
		s, _ := d.Sextant(piece)
		spoil(span(-77, -77), s.Table)
		if !slices.Equal(s.Shade, want.Shade) {
			t.Errorf("the shades change with the table: %v", s)
		}
		s, _ = d.Sextant(piece)
		spoil(span(-77, -77), s.Shade)
		if !slices.Equal(s.Table, want.Table) {
			t.Errorf("the table changes with the shades: %v", s)
		}
	}
}

// clone returns a state that shares no memory with another one.
func (s state) clone() state {
	s.journal, s.pieces, s.records, s.sextants = slices.Clone(s.journal), slices.Clone(s.pieces), slices.Clone(s.records), slices.Clone(s.sextants)
	for i := range s.sextants {
		own := &s.sextants[i]
		own.Table, own.Shade = slices.Clone(own.Table), slices.Clone(own.Shade)
	}
	return s
}

// fleeting returns a text that turns into another one when the bytes that are returned with it are changed.
func fleeting(s string) (string, []byte) {
	b := []byte(s)
	return unsafe.String(&b[0], len(b)), b
}

// P11.5: texts are not retained.
func TestTextsAreCopied(t *testing.T) {
	name, bytes := fleeting("quint")
	d := opened(t, with(func(s *api.DeskSetup) { s.Models[0].Name = name }))
	spoil('x', bytes)
	for _, line := range []string{"make 101 quint bird", "mend 101 dollond", "sell 101 cook"} {
		text, bytes := fleeting(line)
		mustDo(t, d, text)
		spoil('x', bytes)
	}
	want := opened(t, shopSetup())
	mustDo(t, want, "make 101 quint bird", "mend 101 dollond", "sell 101 cook")
	if got, want := stateOf(t, d), stateOf(t, want); !same(got, want) {
		t.Errorf("the desk changes with its lines: %v, not %v", got, want)
	}
	follow(t, d, step{"make 102 quint bird", "0", api.OK}, step{"who 101", "cook", api.OK})
}

// P2, P11.5: desks of one setup are apart.
func TestDesksAreApart(t *testing.T) {
	s := shopSetup()
	a, b := opened(t, s), opened(t, s)
	mustDo(t, a, shopLines()...)
	if got := stateOf(t, b); !same(got, state{day: 5}) {
		t.Errorf("a desk changes with another one: %v", got)
	}
	follow(t, b, step{"make 101 coarse cook", "70130", api.OK}, step{"class 101", "3 324", api.OK})
	follow(t, a, step{"class 205", "2 54", api.OK})
}

// P1: any texts.
func TestAnyTexts(t *testing.T) {
	chance := dice(7)
	slow := &slowDesk{setup: shopSetup()}
	d := opened(t, slow.setup)
	pieces := []string{"make", "judge", "trace", "try", " ", " ", " ", "  ", "0", "1", "101", "99999", "1000000", "quint", "bird", ",", "-", "\n", "\xff", "é"}
	for range 20000 {
		var line string
		for range chance.from(0, 12) {
			line += pick(&chance, pieces...)
		}
		answer, e := d.Do(line)
		if want, problem := slow.do(line); answer != want || e != problem {
			t.Fatalf("Do(%q): %q, %d, not %q, %d", line, answer, e, want, problem)
		}
	}
}

// P1: setups of any numbers.
func TestAnySetups(t *testing.T) {
	chance := dice(11)
	numbers := []int{math.MinInt, -1800, -1, 0, 1, 2, 6, 40, 1000, 2000, 2001, 72000, 100000, 100001, math.MaxInt}
	for range 20000 {
		s := shopSetup()
		m := &s.Models[chance.from(0, 1)]
		for _, x := range []*int{&s.Head.Teeth, &s.Head.Circles[1], &s.Bound, &s.Day, &m.Lines, &m.Price, &m.Sextant.Step, &m.Sextant.Wrong, &m.Sextant.Index.Low, &m.Sextant.Table[1].High, &m.Sextant.Shade[0].Low} {
			if chance.from(0, 11) == 0 {
				*x = pick(&chance, numbers...)
			}
		}
		valid := index.Check(s.Head) == api.OK && s.Bound >= 0 && s.Bound <= 129600000 && s.Day >= 0 && s.Day <= 100000
		for _, m := range s.Models {
			valid = valid && sextant.Check(m.Sextant) == api.OK && m.Lines >= 1 && m.Lines <= 2000 && m.Price >= 0 && m.Price <= 1000
		}
		want := api.OK
		if !valid {
			want = api.ErrDesk
		}
		d, e := desk.New(s)
		_, at, f := desk.Replay(s, []string{"day 100000"})
		if g := desk.Check(s); e != want || f != want || g != want || (d != nil) != valid || (at == 1) != valid {
			t.Fatalf("%v: %d, %d, %d, not %d", s, e, f, g, want)
		}
	}
}
