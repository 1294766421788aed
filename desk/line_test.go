package desk_test

import (
	"fmt"
	"slices"
	"strings"
	"testing"

	"octant/api"
	"octant/desk"
)

// step is a line, and its answer or its error.
type step struct {
	line, answer string
	e            api.Errno
}

// asks reports whether a line begins with a word of those that ask.
func asks(line string) bool {
	word, _, _ := strings.Cut(line, " ")
	return slices.Contains([]string{"read", "class", "who", "cut", "trace", "judge"}, word)
}

// follow does lines, and checks their answers, and that only those that change something are added to the journal.
func follow(t *testing.T, d *desk.Desk, steps ...step) {
	t.Helper()
	for _, x := range steps {
		before := stateOf(t, d)
		answer, e := d.Do(x.line)
		if answer != x.answer || e != x.e {
			t.Errorf("Do(%q): %q, %d, not %q, %d", x.line, answer, e, x.answer, x.e)
		}
		after := stateOf(t, d)
		if e != api.OK || asks(x.line) {
			if !same(before, after) {
				t.Errorf("Do(%q), %d: changes %v into %v", x.line, e, before, after)
			}
		} else if !slices.Equal(after.journal, append(before.journal, x.line)) {
			t.Errorf("Do(%q): the journal %q", x.line, after.journal)
		}
	}
}

// P11.2: the examples of the document.
func TestExamples(t *testing.T) {
	follow(t, opened(t, shopSetup()),
		step{"make 101 quint bird", "0", api.OK},
		step{"make 102 coarse sisson", "70130", api.OK},
		step{"class 101", "2 54", api.OK},
		step{"class 102", "3 324", api.OK},
		step{"sell 102 cook", "", api.ErrDeskClass},
		step{"try 102 36000 0 35985", "2", api.OK},
		step{"try 102 72000 0 72010", "2", api.OK},
		step{"try 102 36000 0 35960", "", api.ErrDeskFalse},
		step{"class 102", "2 49", api.OK},
		step{"read 102 36000 0", "35965 35995", api.OK},
		step{"sell 102 cook", "40", api.OK},
		step{"who 102", "cook", api.OK},
		step{"mend 102 dollond", "", api.ErrDeskPlace},
		step{"day 10", "", api.OK},
		step{"lose 102", "1", api.OK},
		step{"trace 102 9", "-", api.OK},
		step{"trace 102 10", "", api.ErrNone},
		step{"mend 101 dollond", "1", api.OK},
		step{"again 101 205", "", api.OK},
		step{"trace 101 9", "205", api.OK},
		step{"judge 205 10 bird 5 dollond", "0 0", api.OK},
		step{"judge 205 10 bird 5", "4 0", api.OK},
		step{"judge 101 10 bird 5", "1 0", api.OK},
		step{"cut 11", "2 70130", api.OK},
	)
}

// goodLines are lines that have the form, one of each kind, with an n for each number and a w for each other token.
func goodLines() []string {
	return []string{"day n", "make n w w", "try n n n n", "sell n w", "back n", "mend n w", "again n n", "lose n", "read n n n", "class n", "who n", "cut n", "trace n n", "judge n n w n", "judge n n w n w"}
}

// filled returns a line with numbers and other tokens.
func filled(form, number, text string) string {
	words := strings.Split(form, " ")
	for i, x := range words {
		switch x {
		case "n":
			words[i] = number
		case "w":
			words[i] = text
		}
	}
	return strings.Join(words, " ")
}

// hasForm checks lines that have the form, or not.
func hasForm(t *testing.T, form bool, lines ...string) {
	t.Helper()
	d := opened(t, shopSetup())
	before := stateOf(t, d)
	for _, line := range lines {
		answer, e := d.Do(line)
		if (e != api.ErrDeskLine) != form || e != api.OK && answer != "" {
			t.Errorf("Do(%.500q): %q, %d", line, answer, e)
		}
		if !form && !same(before, stateOf(t, d)) {
			t.Errorf("Do(%.500q) changes the desk", line)
		}
	}
}

// P11.2: lines that have the form, also with tokens for which there is another error.
func TestLinesWithTheForm(t *testing.T) {
	for _, form := range goodLines() {
		for _, number := range []string{"0", "1", "9", "10", "101", "99999", "100000", "999999"} {
			for _, text := range []string{"bird", "quint", "Bird", "0", "-", ",", "a,b", ",,", "\n", "\t\r", "\x00", "\xff", "é", "a\u00a0b", strings.Repeat("a", 17), "make"} {
				hasForm(t, true, filled(form, number, text))
			}
		}
	}
}

// P11.2: numbers that are none.
func TestNumbersOfLines(t *testing.T) {
	for _, form := range goodLines() {
		words := strings.Split(form, " ")
		for i, x := range words {
			if x != "n" {
				continue
			}
			for _, number := range []string{"00", "01", "000000", "000001", "1000000", "1234567", "99999999999999999999", "-1", "-0", "+1", "+", "-", "1.", "1.0", "1e3", "0x1", "1_0", "a", "1a", "a1", "1,", "1\n", "\n1", "1\t", "\x00", "1\x00", "/", ":", "1/", "1:", "é", "١", "１", "1\xff", strings.Repeat("1", 100)} {
				other := slices.Clone(words)
				other[i] = number
				hasForm(t, false, filled(strings.Join(other, " "), "1", "a"))
			}
		}
	}
}

// P11.2: lines with other words, too many or too few tokens, and other blanks.
func TestLinesWithoutTheForm(t *testing.T) {
	hasForm(t, false, "", " ", "  ", "\n", "\x00", "a", "0", "-", "new 1", "Day 6", "DAY 6", "days 6", "da 6", "day6", "day\t6", "day\u00a06", "day,6", "6 day", "cast 1", "1 2 3", "make", "try", "replay", "journal")
	for _, form := range goodLines() {
		line := filled(form, "7", "a")
		hasForm(t, true, line)
		hasForm(t, false,
			" "+line, line+" ", "  "+line, line+"  ", "\n"+line, "\r\n"+line, "\ufeff"+line, line+" # #",
			strings.Replace(line, " ", "  ", 1), strings.Replace(line, " ", "\t", 1), strings.Replace(line, " ", "\n", 1), strings.Replace(line, " ", "", 1),
			strings.ToUpper(line[:1])+line[1:], line+" "+line, line+"\x00 ", strings.ReplaceAll(line, " ", "  "),
		)
		if form != "judge n n w n" {
			hasForm(t, false, line+" 7", line+" a", line+" \n")
		}
		// behind a number: else it is a byte of another token
		if strings.HasSuffix(form, " n") {
			hasForm(t, false, line+"\n", line+"\r\n", line+"\t", line+"\x00", line+",", line+"a")
		}
		if form != "judge n n w n w" {
			hasForm(t, false, line[:strings.LastIndex(line, " ")])
		}
		hasForm(t, false, line[:strings.Index(line, " ")])
	}
}

// P11.2: each byte in, and behind, a word and a number.
func TestBytesOfLines(t *testing.T) {
	for b := range 256 {
		one := string([]byte{byte(b)})
		digit := b >= '0' && b <= '9'
		hasForm(t, digit, "class "+one, "class 1"+one)
		hasForm(t, digit && b != '0', "class "+one+"1")
		hasForm(t, one == "s", "clas"+one+" 1")
		hasForm(t, one == " ", "class"+one+"1")
		hasForm(t, false, "class"+one+" 1", one+"class 1", "class 1 "+one)
		hasForm(t, one != " ", "sell 1 "+one, "sell 1 a"+one, "sell 1 "+one+"a", "judge 1 1 a"+one+" 1", "judge 1 1 a 1 a"+one)
	}
}

// P11.2
func TestLongLines(t *testing.T) {
	for _, form := range goodLines() {
		if !strings.Contains(form, " w") {
			continue
		}
		line := filled(form, "7", "a")
		at := strings.LastIndex(line, "a")
		long := func(count int) string { return line[:at] + strings.Repeat("a", count-len(line)+1) + line[at+1:] }
		hasForm(t, true, long(399), long(400))
		hasForm(t, false, long(401), long(402), long(800), long(1000000))
	}
	hasForm(t, false, strings.Repeat(" ", 400), strings.Repeat("a", 401), strings.Repeat("a ", 1000000), "day "+strings.Repeat("1", 396), "day "+strings.Repeat("1", 397))
	// the bytes are counted, not the letters
	hasForm(t, true, "sell 7 "+strings.Repeat("é", 196))
	hasForm(t, false, "sell 7 "+strings.Repeat("é", 197))
}

// P11.2: the day.
func TestDay(t *testing.T) {
	follow(t, opened(t, shopSetup()),
		step{"day 4", "", api.ErrRange}, step{"day 0", "", api.ErrRange},
		step{"day 5", "", api.OK}, step{"day 6", "", api.OK}, step{"day 5", "", api.ErrRange}, step{"day 6", "", api.OK},
		step{"day 100001", "", api.ErrRange}, step{"day 999999", "", api.ErrRange},
		step{"day 100000", "", api.OK}, step{"day 99999", "", api.ErrRange}, step{"day 100000", "", api.OK}, step{"day 100001", "", api.ErrRange},
	)
	d := opened(t, with(func(s *api.DeskSetup) { s.Day = 0 }))
	for _, day := range []int{0, 7, 7, 99, 100000} {
		follow(t, d, step{fmt.Sprint("day ", day), "", api.OK})
		if d.Day() != day {
			t.Errorf("Day: %d, not %d", d.Day(), day)
		}
	}
}

// made returns a desk on which instruments were made, with the numbers 1, 2, ..
func made(t *testing.T, s api.DeskSetup, count int) *desk.Desk {
	t.Helper()
	d := opened(t, s)
	for i := range count {
		mustDo(t, d, fmt.Sprintf("make %d %s bird", i+1, s.Models[i%len(s.Models)].Name))
	}
	return d
}

// mustDo does lines that must be right.
func mustDo(t *testing.T, d *desk.Desk, lines ...string) {
	t.Helper()
	for _, line := range lines {
		if _, e := d.Do(line); e != api.OK {
			t.Fatalf("Do(%q): %d", line, e)
		}
	}
}

// fill mends the instrument 1 until there are 40 records.
func fill(t *testing.T, d *desk.Desk) {
	t.Helper()
	for len(d.Records()) < 40 {
		mustDo(t, d, "mend 1 dollond")
	}
}

// P11.2, P11.8: an instrument is made.
func TestMake(t *testing.T) {
	d := opened(t, shopSetup())
	follow(t, d,
		step{"make 1 quint2 bird", "", api.ErrDeskUnknown}, step{"make 1 Quint bird", "", api.ErrDeskUnknown}, step{"make 1 qu bird", "", api.ErrDeskUnknown}, step{"make 1 bird quint", "", api.ErrDeskUnknown},
		step{"make 0 Quint Bird", "", api.ErrDeskUnknown},
		step{"make 0 quint Bird", "", api.ErrForm},
		step{"make 0 quint bird", "", api.ErrRange}, step{"make 100000 quint bird", "", api.ErrRange}, step{"make 999999 coarse bird", "", api.ErrRange},
		step{"make 1 quint bird", "0", api.OK}, step{"make 99999 coarse bird", "70130", api.OK},
		step{"make 1 coarse sisson", "", api.ErrDeskTwice}, step{"make 99999 coarse sisson", "", api.ErrDeskTwice},
		step{"make 1 coarse Sisson", "", api.ErrForm}, step{"make 1 none sisson", "", api.ErrDeskUnknown},
		step{"again 1 2", "", api.OK}, step{"make 1 quint bird", "", api.ErrDeskTwice}, step{"make 2 quint bird", "", api.ErrDeskTwice},
		step{"sell 2 cook", "90", api.OK}, step{"lose 2", "1", api.OK}, step{"make 2 quint bird", "", api.ErrDeskTwice},
		step{"make 3 quint bird", "0", api.OK},
	)
	if l := d.Pieces(); l[2] != (api.DeskPiece{Number: 3}) {
		t.Errorf("what is made is %v", l[2])
	}
	for _, name := range validNames() {
		follow(t, opened(t, shopSetup()), step{"make 1 quint " + name, "0", api.OK})
	}
	for _, name := range invalidNames() {
		if name != "" && !strings.Contains(name, " ") && len(name) < 300 {
			follow(t, opened(t, shopSetup()), step{"make 1 quint " + name, "", api.ErrForm})
		}
	}
}

// P11.2, P11.8: the places behind the number, the bound and the records.
func TestMakeTooMuch(t *testing.T) {
	strict := func(bound int) api.DeskSetup { return with(func(s *api.DeskSetup) { s.Bound = bound }) }
	follow(t, opened(t, strict(70129)), step{"make 1 coarse bird", "", api.ErrDeskCut}, step{"make 0 coarse bird", "", api.ErrRange}, step{"make 1 quint bird", "0", api.OK}, step{"make 1 coarse bird", "", api.ErrDeskTwice})
	follow(t, opened(t, strict(0)), step{"make 1 coarse bird", "", api.ErrDeskCut}, step{"make 1 quint bird", "0", api.OK})
	follow(t, opened(t, strict(129600000)), step{"make 1 coarse bird", "70130", api.OK})

	d := made(t, shopSetup(), 12)
	follow(t, d, step{"make 13 quint bird", "", api.ErrFull}, step{"make 12 quint bird", "", api.ErrDeskTwice}, step{"make 0 quint bird", "", api.ErrRange}, step{"sell 1 cook", "90", api.OK}, step{"lose 1", "11", api.OK}, step{"make 13 quint bird", "", api.ErrFull})

	// twelve instruments that can be cut: behind them the coarse ones are no matter of the bound
	quints := with(func(s *api.DeskSetup) { s.Models = s.Models[:1] })
	full := made(t, quints, 12)
	follow(t, full, step{"make 13 quint bird", "", api.ErrFull})
	tight := opened(t, strict(0))
	for i := range 12 {
		follow(t, tight, step{fmt.Sprintf("make %d quint bird", i+1), "0", api.OK})
	}
	follow(t, tight, step{"make 13 coarse bird", "", api.ErrFull})

	booked := opened(t, strict(0))
	mustDo(t, booked, "make 1 quint bird")
	fill(t, booked)
	follow(t, booked, step{"make 2 coarse bird", "", api.ErrDeskCut}, step{"make 2 quint bird", "", api.ErrFull}, step{"make 1 quint bird", "", api.ErrDeskTwice})
}

// P11.2: an instrument is tried.
func TestTry(t *testing.T) {
	d := made(t, shopSetup(), 2)
	follow(t, d,
		step{"try 3 0 0 0", "", api.ErrDeskUnknown}, step{"try 0 1 99 999999", "", api.ErrDeskUnknown},
		// 1 is of the model quint
		step{"try 1 1 0 0", "", api.ErrDeskTrial}, step{"try 1 35999 0 35985", "", api.ErrDeskTrial}, step{"try 1 72001 0 72010", "", api.ErrDeskTrial}, step{"try 1 108000 0 72010", "", api.ErrDeskTrial},
		step{"try 1 36000 4 35985", "", api.ErrDeskTrial}, step{"try 1 36000 64 35985", "", api.ErrDeskTrial}, step{"try 1 36000 262144 35985", "", api.ErrDeskTrial}, step{"try 1 36000 524288 35985", "", api.ErrDeskTrial}, step{"try 1 36000 999999 35985", "", api.ErrDeskTrial},
		step{"try 1 36000 0 510001", "", api.ErrDeskTrial}, step{"try 1 36000 0 999999", "", api.ErrDeskTrial},
		step{"try 1 36000 0 510000", "", api.ErrDeskFalse}, step{"try 1 36000 0 0", "", api.ErrDeskFalse},
		// between 36000 less 45 and 36000 less 5
		step{"try 1 36000 0 35954", "", api.ErrDeskFalse}, step{"try 1 36000 0 35996", "", api.ErrDeskFalse},
		step{"try 1 36000 0 35955", "2", api.OK}, step{"try 1 36000 0 35995", "", api.ErrDeskFalse}, step{"try 1 36000 0 35965", "2", api.OK},
		// the index error is -30, the correction at 36000 -10; by the third trial that at 72000 is from 25 to 35
		step{"class 1", "2 44", api.OK}, step{"try 1 72000 0 72000", "1", api.OK}, step{"class 1", "1 34", api.OK},
		step{"class 2", "3 324", api.OK},
	)
	if l := d.Pieces(); l[0].Trials != 3 || l[1].Trials != 0 {
		t.Errorf("trials: %v", l)
	}
	follow(t, d, step{"sell 1 cook", "90", api.OK}, step{"try 1 36000 0 35955", "", api.ErrDeskPlace}, step{"try 1 1 99 35955", "", api.ErrDeskPlace}, step{"back 1", "", api.OK}, step{"try 1 36000 0 35955", "1", api.OK}, step{"sell 1 cook", "90", api.OK}, step{"lose 1", "1", api.OK}, step{"try 1 36000 0 35955", "", api.ErrDeskUnknown})
}

// P11.2: no instrument has more than eight trials.
func TestManyTrials(t *testing.T) {
	d := made(t, shopSetup(), 2)
	for range 8 {
		follow(t, d, step{"try 2 36000 0 35985", "2", api.OK})
	}
	follow(t, d,
		step{"try 2 36000 0 35985", "", api.ErrFull}, step{"try 2 1 99 999999", "", api.ErrFull}, step{"try 2 36000 0 35960", "", api.ErrFull},
		step{"try 1 36000 0 35985", "2", api.OK},
		step{"sell 2 cook", "40", api.OK}, step{"try 2 36000 0 35985", "", api.ErrDeskPlace}, step{"back 2", "", api.OK}, step{"try 2 36000 0 35985", "", api.ErrFull},
		step{"mend 2 dollond", "1", api.OK}, step{"class 2", "3 324", api.OK}, step{"try 2 36000 0 35985", "2", api.OK},
	)
	if l := d.Pieces(); l[0].Trials != 1 || l[1].Trials != 1 {
		t.Errorf("trials: %v", l)
	}
}

// P11.2: trials with shades, of which the sextant has none, two, or six.
func TestShades(t *testing.T) {
	six := make([]api.Span, 6)
	for i := range six {
		six[i] = span(0, 1<<i)
	}
	s := with(func(s *api.DeskSetup) {
		s.Models[0].Sextant.Shade = nil
		s.Models = append(s.Models, s.Models[0])
		s.Models[2].Name = "dark"
		s.Models[2].Sextant.Shade = six
	})
	d := made(t, s, 3)
	for number, count := range []int{0, 2, 6} {
		for _, set := range []int{0, 1, 2, 3, 4, 5, 7, 8, 15, 16, 31, 32, 63, 64, 65, 127, 128, 65536, 524287, 524288, 786432, 999999} {
			has := set < 1<<count
			answer, e := d.Do(fmt.Sprintf("read %d 36000 %d", number+1, set))
			if has != (e == api.OK) || !has && e != api.ErrDeskTrial {
				t.Errorf("read with the shades %d of %d: %q, %d", set, count, answer, e)
			}
			if want := fmt.Sprint(35955, " ", 35995+set); has && number == 2 && answer != want {
				t.Errorf("read with the shades %d of %d: %q, not %q", set, count, answer, want)
			}
			// that it cannot be so is found only if it is a trial
			if _, e := d.Do(fmt.Sprintf("try %d 36000 %d 0", number+1, set)); has != (e == api.ErrDeskFalse) || !has && e != api.ErrDeskTrial {
				t.Errorf("try with the shades %d of %d: %d", set, count, e)
			}
		}
	}
	follow(t, d, step{"try 3 36000 63 35995", "2", api.OK}, step{"read 3 36000 0", "35955 35995", api.OK}, step{"try 3 36000 63 35900", "", api.ErrDeskFalse})
}

// P11.2: an instrument is sold, and comes back.
func TestSellAndBack(t *testing.T) {
	d := made(t, shopSetup(), 2)
	follow(t, d,
		step{"sell 3 cook", "", api.ErrDeskUnknown}, step{"sell 0 Cook", "", api.ErrDeskUnknown}, step{"back 3", "", api.ErrDeskUnknown}, step{"back 0", "", api.ErrDeskUnknown},
		step{"back 1", "", api.ErrDeskPlace}, step{"back 2", "", api.ErrDeskPlace},
		step{"sell 1 Cook", "", api.ErrForm}, step{"sell 2 Cook", "", api.ErrForm}, step{"sell 2 -", "", api.ErrForm}, step{"sell 2 cook", "", api.ErrDeskClass},
		step{"who 1", "-", api.OK}, step{"sell 1 cook", "90", api.OK}, step{"who 1", "cook", api.OK},
		step{"sell 1 cook", "", api.ErrDeskPlace}, step{"sell 1 banks", "", api.ErrDeskPlace}, step{"sell 1 Banks", "", api.ErrDeskPlace},
		step{"back 1", "", api.OK}, step{"who 1", "-", api.OK}, step{"back 1", "", api.ErrDeskPlace}, step{"sell 1 banks", "90", api.OK}, step{"who 1", "banks", api.OK},
		step{"lose 1", "1", api.OK}, step{"back 1", "", api.ErrDeskUnknown}, step{"sell 1 cook", "", api.ErrDeskUnknown},
		step{"try 2 36000 0 35985", "2", api.OK}, step{"sell 2 cook", "40", api.OK},
	)
	if l := d.Pieces(); l[0] != (api.DeskPiece{Number: 1, Owner: "banks", Lost: true}) || l[1] != (api.DeskPiece{Number: 2, Model: 1, Owner: "cook", Trials: 1}) {
		t.Errorf("what was sold is %v", l)
	}
	if l := d.Records(); len(l) != 3 {
		t.Errorf("records of sales: %v", l)
	}
	for _, name := range validNames() {
		follow(t, made(t, shopSetup(), 1), step{"sell 1 " + name, "90", api.OK}, step{"who 1", name, api.OK})
	}
}

// P11.9: what is sold is of the second class at the worst.
func TestClassesThatAreSold(t *testing.T) {
	for _, x := range []struct {
		index  int
		answer string
		e      api.Errno
	}{
		// all but the index error makes 44
		{0, "40", api.OK}, {156, "40", api.OK}, {157, "", api.ErrDeskClass}, {1000, "", api.ErrDeskClass},
	} {
		d := made(t, with(func(s *api.DeskSetup) { s.Models[0].Sextant.Index, s.Models[0].Price = span(-x.index, 0), 40 }), 1)
		follow(t, d, step{"sell 1 cook", x.answer, x.e})
	}
}

// P11.2: an instrument is repaired.
func TestMend(t *testing.T) {
	d := made(t, shopSetup(), 2)
	follow(t, d,
		step{"mend 3 dollond", "", api.ErrDeskUnknown}, step{"mend 0 Dollond", "", api.ErrDeskUnknown}, step{"mend 1 Dollond", "", api.ErrForm}, step{"mend 1 0", "", api.ErrForm},
		step{"try 2 36000 0 35985", "2", api.OK}, step{"day 9", "", api.OK},
		step{"mend 2 dollond", "1", api.OK}, step{"class 2", "3 324", api.OK}, step{"mend 2 ramsden", "2", api.OK}, step{"mend 1 dollond", "1", api.OK}, step{"mend 2 dollond", "3", api.OK},
		step{"sell 1 cook", "90", api.OK}, step{"mend 1 dollond", "", api.ErrDeskPlace}, step{"mend 1 Dollond", "", api.ErrDeskPlace}, step{"back 1", "", api.OK}, step{"mend 1 dollond", "2", api.OK},
		step{"sell 1 cook", "90", api.OK}, step{"lose 1", "1", api.OK}, step{"mend 1 dollond", "", api.ErrDeskUnknown},
	)
	want := []api.DeskPiece{{Number: 1, Owner: "cook", Lost: true, Mends: 2}, {Number: 2, Model: 1, Mends: 3}}
	if l := d.Pieces(); !slices.Equal(l, want) {
		t.Errorf("what was repaired is %v", l)
	}
	if l := d.Records(); len(l) != 8 || l[3] != (api.WreckRecord{Kind: api.WreckMend, Day: 9, Number: 2, By: "ramsden"}) {
		t.Errorf("records of repairs: %v", l)
	}
	fill(t, made(t, shopSetup(), 1))
	full := made(t, shopSetup(), 2)
	mustDo(t, full, "try 2 36000 0 35985")
	fill(t, full)
	follow(t, full, step{"mend 2 Dollond", "", api.ErrForm}, step{"mend 2 dollond", "", api.ErrFull}, step{"class 2", "2 54", api.OK}, step{"mend 3 dollond", "", api.ErrDeskUnknown}, step{"sell 2 cook", "40", api.OK}, step{"mend 2 dollond", "", api.ErrDeskPlace})
}

// P11.2: an instrument gets another number.
func TestAgain(t *testing.T) {
	d := made(t, shopSetup(), 2)
	follow(t, d,
		step{"again 3 4", "", api.ErrDeskUnknown}, step{"again 0 0", "", api.ErrDeskUnknown}, step{"again 3 0", "", api.ErrDeskUnknown},
		step{"again 1 0", "", api.ErrRange}, step{"again 1 100000", "", api.ErrRange}, step{"again 1 999999", "", api.ErrRange},
		step{"again 1 1", "", api.ErrDeskTwice}, step{"again 1 2", "", api.ErrDeskTwice},
		step{"again 1 99999", "", api.OK}, step{"again 1 4", "", api.ErrDeskUnknown}, step{"class 1", "", api.ErrDeskUnknown}, step{"class 99999", "2 54", api.OK},
		step{"again 99999 1", "", api.ErrDeskTwice}, step{"again 2 1", "", api.ErrDeskTwice}, step{"again 2 99999", "", api.ErrDeskTwice},
		step{"sell 99999 cook", "90", api.OK}, step{"again 99999 4", "", api.ErrDeskPlace}, step{"again 99999 0", "", api.ErrDeskPlace},
		step{"lose 99999", "1", api.OK}, step{"again 99999 4", "", api.ErrDeskUnknown}, step{"again 2 99999", "", api.ErrDeskTwice},
		step{"day 7", "", api.OK}, step{"again 2 3", "", api.OK}, step{"again 3 4", "", api.OK},
	)
	if l := d.Records(); l[len(l)-1] != (api.WreckRecord{Kind: api.WreckAgain, Day: 7, Number: 3, New: 4}) {
		t.Errorf("records of numbers: %v", l)
	}
	full := made(t, shopSetup(), 2)
	fill(t, full)
	follow(t, full, step{"again 2 1", "", api.ErrDeskTwice}, step{"again 2 0", "", api.ErrRange}, step{"again 2 3", "", api.ErrFull}, step{"again 3 4", "", api.ErrDeskUnknown}, step{"class 2", "3 324", api.OK})
}

// P11.2: an instrument is lost.
func TestLose(t *testing.T) {
	d := made(t, with(func(s *api.DeskSetup) { s.Models = s.Models[:1] }), 3)
	follow(t, d,
		step{"lose 4", "", api.ErrDeskUnknown}, step{"lose 0", "", api.ErrDeskUnknown}, step{"lose 1", "", api.ErrDeskPlace},
		step{"sell 1 cook", "90", api.OK}, step{"sell 2 cook", "90", api.OK}, step{"sell 3 cook", "90", api.OK}, step{"day 8", "", api.OK},
		step{"lose 2", "2", api.OK}, step{"lose 2", "", api.ErrDeskUnknown}, step{"lose 1", "1", api.OK}, step{"lose 3", "0", api.OK},
		step{"make 4 quint bird", "0", api.OK}, step{"sell 4 cook", "90", api.OK}, step{"lose 4", "0", api.OK},
	)
	if l := d.Records(); l[3] != (api.WreckRecord{Kind: api.WreckLost, Day: 8, Number: 2}) {
		t.Errorf("records of losses: %v", l)
	}
	full := made(t, shopSetup(), 2)
	mustDo(t, full, "try 2 36000 0 35985", "sell 2 cook")
	fill(t, full)
	follow(t, full, step{"lose 1", "", api.ErrDeskPlace}, step{"lose 2", "", api.ErrFull}, step{"who 2", "cook", api.OK}, step{"lose 3", "", api.ErrDeskUnknown})
}

// P11.2: a journal without room.
func TestFullJournal(t *testing.T) {
	d := made(t, shopSetup(), 2)
	for len(d.Journal()) < 150 {
		follow(t, d, step{"day 5", "", api.OK})
	}
	follow(t, d,
		step{"day 5", "", api.ErrFull}, step{"day 4", "", api.ErrFull}, step{"make 3 quint bird", "", api.ErrFull}, step{"make 1 none Bird", "", api.ErrFull}, step{"try 7 0 0 0", "", api.ErrFull}, step{"try 1 1 0 0", "", api.ErrFull}, step{"sell 2 cook", "", api.ErrFull}, step{"sell 7 cook", "", api.ErrFull}, step{"back 1", "", api.ErrFull}, step{"mend 7 Dollond", "", api.ErrFull}, step{"again 1 1", "", api.ErrFull}, step{"lose 1", "", api.ErrFull},
		step{"day", "", api.ErrDeskLine}, step{"day 05", "", api.ErrDeskLine}, step{"make 3 quint", "", api.ErrDeskLine}, step{"", "", api.ErrDeskLine}, step{"days 5", "", api.ErrDeskLine},
		step{"class 1", "2 54", api.OK}, step{"class 7", "", api.ErrDeskUnknown}, step{"who 1", "-", api.OK}, step{"cut 11", "2 70130", api.OK}, step{"trace 1 5", "1", api.OK}, step{"judge 1 5 bird 5", "0 0", api.OK}, step{"read 1 0 0", "-35 -15", api.OK},
	)
}

// P11.2: what an instrument reads.
func TestRead(t *testing.T) {
	d := made(t, shopSetup(), 2)
	follow(t, d,
		step{"read 3 0 0", "", api.ErrDeskUnknown}, step{"read 0 999999 99", "", api.ErrDeskUnknown},
		step{"read 1 72001 0", "", api.ErrDeskTrial}, step{"read 1 999999 0", "", api.ErrDeskTrial}, step{"read 1 0 4", "", api.ErrDeskTrial},
		step{"read 1 0 0", "-35 -15", api.OK}, step{"read 1 1 0", "-35 -14", api.OK}, step{"read 1 15 0", "-21 0", api.OK}, step{"read 1 35 0", "-1 20", api.OK}, step{"read 1 36 0", "0 21", api.OK}, step{"read 1 0 3", "-39 -5", api.OK},
		step{"read 1 18000 0", "17960 17990", api.OK}, step{"read 1 54000 1", "53970 54016", api.OK}, step{"read 1 72000 0", "71985 72025", api.OK}, step{"read 1 72000 3", "71981 72035", api.OK},
		step{"read 2 36000 0", "35685 35995", api.OK}, step{"try 2 36000 0 35985", "2", api.OK}, step{"read 2 36000 0", "35965 35995", api.OK},
		step{"sell 2 cook", "40", api.OK}, step{"read 2 36000 0", "35965 35995", api.OK}, step{"lose 2", "1", api.OK}, step{"read 2 36000 0", "", api.ErrDeskUnknown},
	)
}

// P11.2: the class, and who has an instrument, also behind other numbers.
func TestClassAndWho(t *testing.T) {
	d := made(t, shopSetup(), 2)
	follow(t, d,
		step{"class 3", "", api.ErrDeskUnknown}, step{"class 0", "", api.ErrDeskUnknown}, step{"who 3", "", api.ErrDeskUnknown}, step{"who 999999", "", api.ErrDeskUnknown},
		step{"class 1", "2 54", api.OK}, step{"class 2", "3 324", api.OK}, step{"who 2", "-", api.OK},
		step{"again 2 7", "", api.OK}, step{"who 2", "", api.ErrDeskUnknown}, step{"class 2", "", api.ErrDeskUnknown}, step{"who 7", "-", api.OK}, step{"class 7", "3 324", api.OK},
		step{"sell 1 cook", "90", api.OK}, step{"class 1", "2 54", api.OK}, step{"lose 1", "1", api.OK}, step{"who 1", "", api.ErrDeskUnknown}, step{"class 1", "", api.ErrDeskUnknown},
	)
}

// P11.2: the best circle.
func TestCut(t *testing.T) {
	follow(t, opened(t, with(func(s *api.DeskSetup) { s.Bound = 0 })),
		step{"cut 0", "", api.ErrRange}, step{"cut 2001", "", api.ErrRange}, step{"cut 999999", "", api.ErrRange},
		step{"cut 1", "0 0", api.OK}, step{"cut 7", "2 0", api.OK}, step{"cut 11", "2 70130", api.OK}, step{"cut 28", "2 0", api.OK}, step{"cut 12", "0 0", api.OK}, step{"cut 24", "0 0", api.OK}, step{"cut 16", "1 0", api.OK},
		// of 1999 lines, a prime, one is off by 999 of 1999 parts of one of 840 holes; of 2000 by 1000
		step{"cut 1999", "2 77105", api.OK}, step{"cut 2000", "2 77143", api.OK},
	)
}

// P11.2: which number an instrument has that bore another one.
func TestTrace(t *testing.T) {
	d := opened(t, shopSetup())
	mustDo(t, d, "make 7 quint bird", "day 8", "make 3 quint sisson", "mend 7 bird", "day 10", "again 7 5", "make 9 coarse bird", "day 20", "again 5 6", "sell 6 cook", "day 30")
	follow(t, d,
		step{"trace 0 5", "", api.ErrRange}, step{"trace 100000 5", "", api.ErrRange}, step{"trace 7 100001", "", api.ErrRange}, step{"trace 4 100001", "", api.ErrRange}, step{"trace 0 999999", "", api.ErrRange},
		step{"trace 4 5", "", api.ErrNone}, step{"trace 99999 100000", "", api.ErrNone},
		step{"trace 7 4", "", api.ErrNone}, step{"trace 7 0", "", api.ErrNone}, step{"trace 7 5", "6", api.OK}, step{"trace 7 9", "6", api.OK}, step{"trace 7 10", "", api.ErrNone},
		step{"trace 5 9", "", api.ErrNone}, step{"trace 5 10", "6", api.OK}, step{"trace 5 19", "6", api.OK}, step{"trace 5 20", "", api.ErrNone},
		step{"trace 6 20", "6", api.OK}, step{"trace 6 30", "6", api.OK}, step{"trace 6 100000", "6", api.OK},
		step{"trace 3 7", "", api.ErrNone}, step{"trace 3 8", "3", api.OK}, step{"trace 9 10", "9", api.OK}, step{"trace 9 9", "", api.ErrNone},
		step{"lose 6", "2", api.OK}, step{"trace 7 5", "-", api.OK}, step{"trace 5 10", "-", api.OK}, step{"trace 6 29", "-", api.OK}, step{"trace 6 30", "", api.ErrNone}, step{"trace 3 30", "3", api.OK},
	)
}

// P11.2: whether what is said of an instrument is true.
func TestJudge(t *testing.T) {
	d := opened(t, shopSetup())
	mustDo(t, d, "make 101 quint bird", "day 20", "mend 101 ramsden", "day 40", "again 101 205", "day 50", "mend 205 dollond")
	many := func(count int) string { return strings.Repeat("a,", count-1) + "a" }
	follow(t, d,
		step{"judge 205 55 bird 5 ramsden,dollond", "0 0", api.OK}, step{"judge 205 49 bird 5 ramsden", "0 0", api.OK}, step{"judge 101 19 bird 5", "0 0", api.OK},
		step{"judge 205 55 bird 5 dollond,ramsden", "4 0", api.OK}, step{"judge 205 55 bird 5 ramsden", "4 1", api.OK}, step{"judge 205 55 bird 5 ramsden,dollond,bird", "4 2", api.OK}, step{"judge 205 49 bird 5 ramsden,dollond", "4 1", api.OK}, step{"judge 205 55 bird 5", "4 0", api.OK},
		step{"judge 205 55 sisson 5 ramsden,dollond", "2 0", api.OK}, step{"judge 205 55 bird 6 ramsden,dollond", "3 0", api.OK}, step{"judge 101 55 bird 5 ramsden,dollond", "1 0", api.OK}, step{"judge 205 39 bird 5 ramsden", "1 0", api.OK}, step{"judge 99999 100000 bird 100000", "1 0", api.OK},
		step{"judge 0 55 bird 5", "", api.ErrDeskClaim}, step{"judge 100000 55 bird 5", "", api.ErrDeskClaim}, step{"judge 205 100001 bird 5", "", api.ErrDeskClaim}, step{"judge 205 55 Bird 5", "", api.ErrDeskClaim}, step{"judge 205 55 bird,bird 5", "", api.ErrDeskClaim}, step{"judge 205 55 bird 100001", "", api.ErrDeskClaim}, step{"judge 205 55 abcdefghijklmnopq 5", "", api.ErrDeskClaim},
		step{"judge 205 55 bird 5 Ramsden", "", api.ErrDeskClaim}, step{"judge 205 55 bird 5 ramsden,", "", api.ErrDeskClaim}, step{"judge 205 55 bird 5 ,ramsden", "", api.ErrDeskClaim}, step{"judge 205 55 bird 5 ramsden,,dollond", "", api.ErrDeskClaim}, step{"judge 205 55 bird 5 ,", "", api.ErrDeskClaim}, step{"judge 205 55 bird 5 -", "", api.ErrDeskClaim}, step{"judge 205 55 bird 5 ramsden;dollond", "", api.ErrDeskClaim}, step{"judge 205 55 bird 5 abcdefghijklmnopq", "", api.ErrDeskClaim},
		step{"judge 205 55 bird 5 " + many(40), "4 0", api.OK}, step{"judge 205 55 bird 5 " + many(41), "", api.ErrDeskClaim},
		step{"sell 205 cook", "90", api.OK}, step{"day 60", "", api.OK}, step{"lose 205", "0", api.OK}, step{"judge 205 59 bird 5 ramsden,dollond", "0 0", api.OK}, step{"judge 205 60 bird 5 ramsden,dollond", "1 0", api.OK},
	)
}
