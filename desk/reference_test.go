package desk_test

import (
	"fmt"
	"regexp"
	"slices"
	"strconv"
	"strings"

	"octant/api"
	"octant/index"
	"octant/sextant"
)

// The desk of this file keeps nothing but its setup and its journal, and finds out slowly from these whatever it is asked, to check the package against.

// dice is a row of numbers that look as if by chance, the same ones each time.
type dice uint64

// from returns a number from low to high.
func (d *dice) from(low, high int) int {
	*d = *d*6364136223846793005 + 1442695040888963407
	return low + int(uint64(*d)>>33)%(high-low+1)
}

// pick returns one of several things.
func pick[T any](d *dice, l ...T) T { return l[d.from(0, len(l)-1)] }

type slowDesk struct {
	setup   api.DeskSetup
	journal []string
}

// bearing is between which days an instrument bore a number: from the first one on, and before the second one.
type bearing struct{ number, from, to int }

// mark is who repaired an instrument, and when.
type mark struct {
	by  string
	day int
}

// slowPiece is all that ever happened to an instrument.
type slowPiece struct {
	model    int
	maker    string
	made     int
	bearings []bearing
	marks    []mark
	owner    string
	lost     bool
	trials   []api.SextantTrial
}

const never = 1 << 30

func (p *slowPiece) number() int { return p.bearings[len(p.bearings)-1].number }

func (p *slowPiece) end(day int) { p.bearings[len(p.bearings)-1].to = day }

func number(word string) int {
	x, err := strconv.Atoi(word)
	if err != nil {
		panic(err)
	}
	return x
}

// history is what the lines of a journal leave.
type history struct {
	day     int
	pieces  []*slowPiece
	records []api.WreckRecord
}

func (d *slowDesk) history() *history {
	h := &history{day: d.setup.Day}
	for _, line := range d.journal {
		h.add(d.setup, strings.Split(line, " "))
	}
	return h
}

// find returns the instrument with a number that is not lost, or none.
func (h *history) find(number int) *slowPiece {
	for _, p := range h.pieces {
		if !p.lost && p.number() == number {
			return p
		}
	}
	return nil
}

func (h *history) add(s api.DeskSetup, w []string) {
	at := number(w[1])
	p := h.find(at)
	r := api.WreckRecord{Day: h.day, Number: at}
	switch w[0] {
	case "day":
		h.day = at
	case "make":
		model := slices.IndexFunc(s.Models, func(m api.DeskModel) bool { return m.Name == w[2] })
		h.pieces = append(h.pieces, &slowPiece{model: model, maker: w[3], made: h.day, bearings: []bearing{{at, h.day, never}}})
		r.Kind, r.By = api.WreckMade, w[3]
	case "try":
		p.trials = append(p.trials, slowTrial(w))
	case "sell":
		p.owner = w[2]
	case "back":
		p.owner = ""
	case "mend":
		p.marks, p.trials = append(p.marks, mark{w[2], h.day}), nil
		r.Kind, r.By = api.WreckMend, w[2]
	case "again":
		p.end(h.day)
		p.bearings = append(p.bearings, bearing{number(w[2]), h.day, never})
		r.Kind, r.New = api.WreckAgain, number(w[2])
	case "lose":
		p.end(h.day)
		p.lost = true
		r.Kind = api.WreckLost
	}
	if r.Kind != 0 {
		h.records = append(h.records, r)
	}
}

func slowTrial(w []string) api.SextantTrial {
	return api.SextantTrial{SextantReading: api.SextantReading{At: number(w[2]), Shades: number(w[3])}, True: number(w[4])}
}

// wasThere reports whether any instrument ever bore a number.
func (h *history) wasThere(number int) bool {
	for _, p := range h.pieces {
		if slices.ContainsFunc(p.bearings, func(b bearing) bool { return b.number == number }) {
			return true
		}
	}
	return false
}

// bore returns the instrument that bore a number on a day, or none.
func (h *history) bore(number, day int) *slowPiece {
	for _, p := range h.pieces {
		if slices.ContainsFunc(p.bearings, func(b bearing) bool { return b.number == number && b.from <= day && day < b.to }) {
			return p
		}
	}
	return nil
}

// sextant returns the sextant of an instrument.
func (d *slowDesk) sextant(p *slowPiece) api.Sextant {
	s := d.setup.Models[p.model].Sextant
	if len(p.trials) > 0 {
		var e api.Errno
		if s.Table, s.Index, e = sextant.Trial(s, p.trials); e != api.OK {
			panic(e)
		}
	}
	return s
}

func (d *slowDesk) class(p *slowPiece) (class, fault int) {
	class, fault, e := sextant.Class(d.sextant(p))
	if e != api.OK {
		panic(e)
	}
	return class, fault
}

func (d *slowDesk) state() state {
	h := d.history()
	s := state{journal: d.journal, day: h.day, records: h.records}
	for _, p := range h.pieces {
		s.pieces = append(s.pieces, api.DeskPiece{Number: p.number(), Model: p.model, Owner: p.owner, Lost: p.lost, Mends: len(p.marks), Trials: len(p.trials)})
		s.sextants = append(s.sextants, d.sextant(p))
	}
	return s
}

// slowForms are those of all lines.
var slowForms = func() (l []*regexp.Regexp) {
	for _, form := range goodLines() {
		word, rest, _ := strings.Cut(form, " ")
		rest = strings.NewReplacer("n", "(0|[1-9][0-9]{0,5})", "w", "[^ ]+").Replace(rest)
		l = append(l, regexp.MustCompile(`(?s)\A`+word+" "+rest+`\z`))
	}
	return l
}()

func hasSlowForm(line string) bool {
	return len(line) <= 400 && slices.ContainsFunc(slowForms, func(form *regexp.Regexp) bool { return form.MatchString(line) })
}

var slowName = regexp.MustCompile(`\A[a-z][a-z0-9-]{0,15}\z`)

// check is something that must be so, and the error if it is not.
type check struct {
	so func() bool
	e  api.Errno
}

// failed returns the error of the first check that is not so.
func failed(l ...check) api.Errno {
	for _, x := range l {
		if !x.so() {
			return x.e
		}
	}
	return api.OK
}

// problem returns the error of a line that changes something.
func (d *slowDesk) problem(w []string) api.Errno {
	h := d.history()
	at := number(w[1])
	p := h.find(at)
	between := func(x, low, high int) func() bool { return func() bool { return low <= x && x <= high } }
	isNumber := func(x int) check { return check{between(x, 1, 99999), api.ErrRange} }
	isFree := func(x int) check { return check{func() bool { return !h.wasThere(x) }, api.ErrDeskTwice} }
	known := check{func() bool { return p != nil }, api.ErrDeskUnknown}
	inside := check{func() bool { return p.owner == "" }, api.ErrDeskPlace}
	outside := check{func() bool { return p.owner != "" }, api.ErrDeskPlace}
	named := func(s string) check { return check{func() bool { return slowName.MatchString(s) }, api.ErrForm} }
	recorded := check{func() bool { return len(h.records) < 40 }, api.ErrFull}
	switch w[0] {
	case "day":
		return failed(check{between(at, h.day, 100000), api.ErrRange})
	case "make":
		lines := 0
		for _, m := range d.setup.Models {
			if m.Name == w[2] {
				lines = m.Lines
			}
		}
		return failed(
			check{func() bool { return lines > 0 }, api.ErrDeskUnknown}, named(w[3]), isNumber(at), isFree(at),
			check{func() bool { return len(h.pieces) < 12 }, api.ErrFull},
			check{func() bool { return slowEngraved(d.setup.Head, lines) <= d.setup.Bound }, api.ErrDeskCut}, recorded,
		)
	case "try":
		trialError := func(l ...api.SextantTrial) api.Errno {
			_, _, e := sextant.Trial(d.setup.Models[p.model].Sextant, l)
			return e
		}
		return failed(
			known, inside, check{func() bool { return len(p.trials) < 8 }, api.ErrFull},
			check{func() bool { return trialError(slowTrial(w)) != api.ErrSextantTrial }, api.ErrDeskTrial},
			check{func() bool { return trialError(append(slices.Clone(p.trials), slowTrial(w))...) == api.OK }, api.ErrDeskFalse},
		)
	case "sell":
		return failed(known, inside, named(w[2]), check{func() bool { class, _ := d.class(p); return class != 3 }, api.ErrDeskClass})
	case "back":
		return failed(known, outside)
	case "mend":
		return failed(known, inside, named(w[2]), recorded)
	case "again":
		return failed(known, inside, isNumber(number(w[2])), isFree(number(w[2])), recorded)
	}
	return failed(known, outside, recorded)
}

// slowEngraved returns what is engraved by the best circle: the least that is on any.
func slowEngraved(h api.IndexHead, lines int) int {
	least := never
	for circle := range h.Circles {
		_, engraved, e := index.Cut(h, circle, lines)
		if e != api.OK {
			panic(e)
		}
		least = min(least, engraved)
	}
	return least
}

// said returns the answer of a line that has just changed something.
func (d *slowDesk) said(w []string) string {
	h := d.history()
	p := h.find(number(w[1]))
	switch w[0] {
	case "make":
		return fmt.Sprint(slowEngraved(d.setup.Head, d.setup.Models[p.model].Lines))
	case "try":
		class, _ := d.class(p)
		return fmt.Sprint(class)
	case "sell":
		return fmt.Sprint(d.setup.Models[p.model].Price)
	case "mend":
		return fmt.Sprint(len(p.marks))
	case "lose":
		left := 0
		for _, p := range h.pieces {
			if !p.lost {
				left++
			}
		}
		return fmt.Sprint(left)
	}
	return ""
}

// told answers a line that asks.
func (d *slowDesk) told(w []string) (string, api.Errno) {
	h := d.history()
	at := number(w[1])
	switch w[0] {
	case "cut":
		if at < 1 || at > 2000 {
			return "", api.ErrRange
		}
		circle, engraved, _ := index.Best(d.setup.Head, at)
		return fmt.Sprint(circle, " ", engraved), api.OK
	case "trace":
		day := number(w[2])
		if at < 1 || at > 99999 || day > 100000 {
			return "", api.ErrRange
		}
		p := h.bore(at, day)
		if p == nil {
			return "", api.ErrNone
		}
		if p.lost {
			return "-", api.OK
		}
		return fmt.Sprint(p.number()), api.OK
	case "judge":
		return h.judged(w)
	}
	p := h.find(at)
	if p == nil {
		return "", api.ErrDeskUnknown
	}
	switch w[0] {
	case "read":
		angle, e := sextant.Read(d.sextant(p), slowTrial(append(w, "0")).SextantReading)
		if e != api.OK {
			return "", api.ErrDeskTrial
		}
		return fmt.Sprint(angle.Low, " ", angle.High), api.OK
	case "class":
		class, fault := d.class(p)
		return fmt.Sprint(class, " ", fault), api.OK
	}
	if p.owner == "" {
		return "-", api.OK
	}
	return p.owner, api.OK
}

// judged answers a line that asks whether a claim is true.
func (h *history) judged(w []string) (string, api.Errno) {
	at, day, maker, made := number(w[1]), number(w[2]), w[3], number(w[4])
	var marks []string
	if len(w) == 6 {
		marks = strings.Split(w[5], ",")
	}
	if at < 1 || at > 99999 || day > 100000 || made > 100000 || len(marks) > 40 {
		return "", api.ErrDeskClaim
	}
	for _, name := range append(slices.Clone(marks), maker) {
		if !slowName.MatchString(name) {
			return "", api.ErrDeskClaim
		}
	}
	p := h.bore(at, day)
	switch {
	case p == nil:
		return "1 0", api.OK
	case p.maker != maker:
		return "2 0", api.OK
	case p.made != made:
		return "3 0", api.OK
	}
	var own []string
	for _, m := range p.marks {
		if m.day <= day {
			own = append(own, m.by)
		}
	}
	for i := 0; i < len(own) || i < len(marks); i++ {
		if i >= len(own) || i >= len(marks) || own[i] != marks[i] {
			return fmt.Sprint("4 ", i), api.OK
		}
	}
	return "0 0", api.OK
}

// do does a line.
func (d *slowDesk) do(line string) (string, api.Errno) {
	if !hasSlowForm(line) {
		return "", api.ErrDeskLine
	}
	w := strings.Split(line, " ")
	if asks(line) {
		return d.told(w)
	}
	if len(d.journal) == 150 {
		return "", api.ErrFull
	}
	if e := d.problem(w); e != api.OK {
		return "", e
	}
	d.journal = append(d.journal, line)
	return d.said(w), api.OK
}
