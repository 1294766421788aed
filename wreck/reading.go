package wreck

import (
	"iter"

	"octant/api"
)

const base = 10 // how many digits there are

// digits tells which digits a byte can have.
type digits [base]bool

// just returns the digits of which there is one alone.
func just(digit int) digits {
	var d digits
	d[digit] = true
	return d
}

// sole returns the digit that a byte has if it can have no other one, and whether this is so.
func (d digits) sole() (digit int, sure bool) {
	for digit := range base {
		if d == just(digit) {
			return digit, true
		}
	}
	return 0, false
}

// excess is by how much, in each row and in each column, the sum of all entries but the last one is more than the last one.
type excess struct{ rows, columns [api.WreckSide]int }

// with returns the excess if a byte, which was counted as 0, has a digit.
func (r rows) with(x excess, at api.WreckPlace, digit int) excess {
	for range len(r.entry(at)) - 1 - at.At {
		digit *= base
	}
	x.rows[at.Row] += signed(digit, at.Col == r.columns()-1)
	x.columns[at.Col] += signed(digit, at.Row == len(r)-1)
	return x
}

// signed returns what a number adds to the excess.
func signed(x int, isOfLast bool) int {
	if isOfLast {
		return -x
	}
	return x
}

// known returns the excess with all lost bytes counted as 0.
func (r rows) known() excess {
	var x excess
	for at, b := range r.bytes() {
		if b != unread {
			x = r.with(x, at, int(b-'0'))
		}
	}
	return x
}

// allowed returns which digits a byte can have by its place alone.
func (r rows) allowed(at api.WreckPlace) digits {
	begins := at.At == 0 && len(r.entry(at)) > 1
	var d digits
	for digit := range base {
		d[digit] = digit > 0 || !begins
	}
	return d
}

// page is a page in the calculation, with its lost bytes in order.
type page struct {
	rows
	lost []api.WreckPlace
}

func pageOf(p [][]string) page {
	var own page
	for _, row := range p {
		own.rows = append(own.rows, row[:len(row):len(row)]) // what lies behind it is the caller's
	}
	for at, b := range own.bytes() {
		if b == unread {
			own.lost = append(own.lost, at)
		}
	}
	return own
}

// reading is the digits of the lost bytes of a page, in their order.
type reading [api.WreckUnread]int

// readings produces those that agree.
func (p page) readings() iter.Seq[reading] {
	return func(yield func(reading) bool) {
		var r reading
		var fill func(number int, x excess) bool // whether more are wanted
		fill = func(number int, x excess) bool {
			if number == len(p.lost) {
				return x != excess{} || yield(r)
			}
			at := p.lost[number]
			allowed := p.allowed(at)
		filling:
			for digit := range base {
				if !allowed[digit] {
					continue
				}
				next := p.with(x, at, digit)
				for row := at.Row; row < p.rowOfLost(number+1); row++ {
					if next.rows[row] != 0 {
						continue filling
					}
				}
				r[number] = digit
				if !fill(number+1, next) {
					return false
				}
			}
			return true
		}
		fill(0, p.known())
	}
}

// rowOfLost returns the row of a lost byte, and behind the last one the number of rows: the rows before it are whole once all lost bytes before this one are filled.
func (p page) rowOfLost(number int) int {
	if number == len(p.lost) {
		return len(p.rows)
	}
	return p.lost[number].Row
}

// tally is how many readings of a page agree, and how many of them have each digit at each lost byte.
type tally struct {
	readings int
	having   map[api.WreckPlace][base]int
}

func (p page) tally() tally {
	t := tally{having: map[api.WreckPlace][base]int{}}
	for r := range p.readings() {
		t.readings++
		for number, at := range p.lost {
			counts := t.having[at]
			counts[r[number]]++
			t.having[at] = counts
		}
	}
	return t
}

// digits returns which digits a byte can have: none, if it is not lost.
func (t tally) digits(at api.WreckPlace) digits {
	var d digits
	for digit, count := range t.having[at] {
		d[digit] = count > 0
	}
	return d
}

// left returns how many readings a lost byte would leave.
func (t tally) left(at api.WreckPlace) int {
	most := 0
	for _, count := range t.having[at] {
		most = max(most, count)
	}
	return most
}

// restored returns the page with all digits that are sure.
func (p page) restored(t tally) [][]string {
	list := make([][]string, len(p.rows))
	for row, entries := range p.rows {
		for col, entry := range entries {
			text := []byte(entry)
			for at := range text {
				if digit, sure := t.digits(api.WreckPlace{Row: row, Col: col, At: at}).sole(); sure {
					text[at] = byte('0' + digit)
				}
			}
			list[row] = append(list[row], string(text))
		}
	}
	return list
}
