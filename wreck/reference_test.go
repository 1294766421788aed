package wreck_test

import (
	"slices"
	"strconv"
	"strings"

	"octant/api"
)

// The functions of this file say slowly what the document says, to check the package against.

// dice is a row of numbers that look as if by chance, the same ones each time.
type dice uint64

// from returns a number from low to high.
func (d *dice) from(low, high int) int {
	*d = *d*6364136223846793005 + 1442695040888963407
	return low + int(uint64(*d)>>33)%(high-low+1)
}

// pick returns one of several things.
func pick[T any](d *dice, l ...T) T { return l[d.from(0, len(l)-1)] }

// clonePage returns a page that shares no memory with another one.
func clonePage(p [][]string) [][]string {
	var list [][]string
	for _, row := range p {
		list = append(list, slices.Clone(row))
	}
	return list
}

// byteAt returns a byte of a page.
func byteAt(p [][]string, at api.WreckPlace) byte { return p[at.Row][at.Col][at.At] }

// withByte returns a page with another byte at a place.
func withByte(p [][]string, at api.WreckPlace, b byte) [][]string {
	p = clonePage(p)
	text := []byte(p[at.Row][at.Col])
	text[at.At] = b
	p[at.Row][at.Col] = string(text)
	return p
}

// placesOf returns the places of all bytes of a page that are lost, or of all that are not.
func placesOf(p [][]string, lost bool) []api.WreckPlace {
	var l []api.WreckPlace
	for row := range p {
		for col := range p[row] {
			for i := range len(p[row][col]) {
				if at := (api.WreckPlace{Row: row, Col: col, At: i}); (byteAt(p, at) == '?') == lost {
					l = append(l, at)
				}
			}
		}
	}
	return l
}

// isSum reports whether the sum of all entries but the last one is the last one.
func isSum(l []string) bool {
	sum := 0
	for i, x := range l {
		number, err := strconv.Atoi(x)
		if err != nil || len(x) > 1 && x[0] == '0' {
			return false
		}
		if i < len(l)-1 {
			sum += number
		} else if sum != number {
			return false
		}
	}
	return true
}

// isRight reports whether a page of which nothing is lost has right sums.
func isRight(p [][]string) bool {
	for _, row := range p {
		if !isSum(row) {
			return false
		}
	}
	for col := range p[0] {
		var l []string
		for _, row := range p {
			l = append(l, row[col])
		}
		if !isSum(l) {
			return false
		}
	}
	return true
}

// slowReadings returns the page as it is by each reading that agrees.
func slowReadings(p [][]string) [][][]string {
	lost := placesOf(p, true)
	all := 1
	for range lost {
		all *= 10
	}
	filled := clonePage(p)
	var list [][][]string
	for number := range all {
		for _, at := range lost {
			text := []byte(filled[at.Row][at.Col])
			text[at.At] = byte('0' + number%10)
			filled[at.Row][at.Col] = string(text)
			number /= 10
		}
		if isRight(filled) {
			list = append(list, clonePage(filled))
		}
	}
	return list
}

// slowCounts returns how many of some readings have each digit at a place.
func slowCounts(readings [][][]string, at api.WreckPlace) map[byte]int {
	counts := map[byte]int{}
	for _, p := range readings {
		counts[byteAt(p, at)]++
	}
	return counts
}

// slowRestore returns the page with all digits that are sure by some readings.
func slowRestore(p [][]string, readings [][][]string) [][]string {
	p = clonePage(p)
	for _, at := range placesOf(p, true) {
		if len(slowCounts(readings, at)) == 1 {
			p = withByte(p, at, byteAt(readings[0], at))
		}
	}
	return p
}

// slowLeft returns how many of some readings a lost byte would leave.
func slowLeft(readings [][][]string, at api.WreckPlace) int {
	most := 0
	for _, count := range slowCounts(readings, at) {
		most = max(most, count)
	}
	return most
}

// slowAsk returns the lost byte that would leave the fewest of some readings.
func slowAsk(p [][]string, readings [][][]string) (best api.WreckPlace, left int) {
	left = len(readings) + 1
	for _, at := range placesOf(p, true) {
		if n := slowLeft(readings, at); n < left {
			best, left = at, n
		}
	}
	return best, left
}

// whole returns a page whose sums are right, of numbers that are at most so great.
func (d *dice) whole(most int) [][]string {
	side, width := d.from(2, 5), d.from(2, 5)
	numbers := make([][]int, side)
	for row := range numbers {
		numbers[row] = make([]int, width)
	}
	for row := range side - 1 {
		for col := range width - 1 {
			x := d.from(0, most)
			numbers[row][col] += x
			numbers[row][width-1] += x
			numbers[side-1][col] += x
			numbers[side-1][width-1] += x
		}
	}
	var p [][]string
	for _, row := range numbers {
		var texts []string
		for _, x := range row {
			texts = append(texts, strconv.Itoa(x))
		}
		p = append(p, texts)
	}
	return p
}

// lose returns a page of which at most so many bytes more are lost.
func (d *dice) lose(p [][]string, count int) [][]string {
	for range count {
		if left := placesOf(p, false); len(left) > 0 {
			p = withByte(p, pick(d, left...), '?')
		}
	}
	return p
}

// loseSquare returns a page of which a byte is lost in four entries of two rows and of two columns, if they are long enough: so several readings may agree.
func (d *dice) loseSquare(p [][]string) [][]string {
	top, left, back := d.from(1, len(p)-1), d.from(1, len(p[0])-1), pick(d, 1, 1, 2)
	for _, row := range []int{d.from(0, top-1), top} {
		for _, col := range []int{left - 1, left} {
			if at := len(p[row][col]) - back; at >= 0 {
				p = withByte(p, api.WreckPlace{Row: row, Col: col, At: at}, '?')
			}
		}
	}
	return p
}

// wet returns a page of which at most so many bytes are lost, and what it was.
func (d *dice) wet(most int) (p, was [][]string) {
	was = d.whole(pick(d, 1, 9, 99, 999, 6249))
	p = was
	if most >= 4 && d.from(0, 2) > 0 {
		p = d.loseSquare(p)
	}
	return d.lose(p, d.from(0, most-len(placesOf(p, true)))), was
}

// known reports whether a number is in a record of a list.
func known(l []api.WreckRecord, number int) bool {
	return slices.ContainsFunc(l, func(r api.WreckRecord) bool { return r.Number == number || r.New == number })
}

// inUse reports whether a number is in use behind a list of records.
func inUse(l []api.WreckRecord, number int) bool {
	for i := len(l) - 1; i >= 0; i-- {
		r := l[i]
		if r.Number != number && r.New != number {
			continue
		}
		return (r.Kind == api.WreckMade || r.Kind == api.WreckMend) && r.Number == number || r.Kind == api.WreckAgain && r.New == number
	}
	return false
}

const (
	letters = "abcdefghijklmnopqrstuvwxyz"
	others  = "0123456789-"
)

func isName(s string) bool {
	return len(s) >= 1 && len(s) <= 16 && strings.Contains(letters, s[:1]) && strings.Trim(s, letters+others) == ""
}

func between(x, low, high int) bool { return low <= x && x <= high }

// slowFollows reports whether a record can follow those of a list.
func slowFollows(l []api.WreckRecord, r api.WreckRecord) bool {
	before := 0
	if len(l) > 0 {
		before = l[len(l)-1].Day
	}
	if !between(r.Day, before, 100000) || !between(r.Number, 1, 99999) {
		return false
	}
	switch r.Kind {
	case api.WreckMade:
		return isName(r.By) && r.New == 0 && !known(l, r.Number)
	case api.WreckMend:
		return isName(r.By) && r.New == 0 && inUse(l, r.Number)
	case api.WreckAgain:
		return r.By == "" && between(r.New, 1, 99999) && r.New != r.Number && !known(l, r.New) && inUse(l, r.Number)
	case api.WreckLost:
		return r.By == "" && r.New == 0 && inUse(l, r.Number)
	}
	return false
}

func slowBook(l []api.WreckRecord) bool {
	for i, r := range l {
		if !slowFollows(l[:i], r) {
			return false
		}
	}
	return len(l) <= 40
}

// recordsOf returns the records of the instrument that a record made.
func recordsOf(l []api.WreckRecord, made int) []api.WreckRecord {
	number := l[made].Number
	var list []api.WreckRecord
	for _, r := range l[made:] {
		if r.Number != number {
			continue
		}
		list = append(list, r)
		if r.Kind == api.WreckAgain {
			number = r.New
		}
	}
	return list
}

// slowBears reports whether the instrument that a record made bears a number on a day.
func slowBears(l []api.WreckRecord, made, number, day int) bool {
	got, lost := false, false
	for _, r := range recordsOf(l, made) {
		if r.Day > day {
			continue
		}
		got = got || r.Kind == api.WreckMade && r.Number == number || r.Kind == api.WreckAgain && r.New == number
		lost = lost || (r.Kind == api.WreckAgain || r.Kind == api.WreckLost) && r.Number == number
	}
	return got && !lost
}

// madeOf returns the indices of all records that made an instrument.
func madeOf(l []api.WreckRecord) []int {
	var list []int
	for i, r := range l {
		if r.Kind == api.WreckMade {
			list = append(list, i)
		}
	}
	return list
}

// slowTrace returns the instrument that bears a number on a day, and whether there is one.
func slowTrace(l []api.WreckRecord, number, day int) (made int, found bool) {
	for _, i := range madeOf(l) {
		if slowBears(l, i, number, day) {
			return i, true
		}
	}
	return 0, false
}

// slowMarks returns the names of those who repaired an instrument up to a day.
func slowMarks(l []api.WreckRecord, made, day int) []string {
	var list []string
	for _, r := range recordsOf(l, made) {
		if r.Kind == api.WreckMend && r.Day <= day {
			list = append(list, r.By)
		}
	}
	return list
}

// slowJudge returns why a claim is not true.
func slowJudge(l []api.WreckRecord, c api.WreckClaim) api.WreckWhy {
	made, found := slowTrace(l, c.Number, c.Day)
	if !found {
		return api.WreckWhy{Kind: api.WreckNobody}
	}
	if l[made].By != c.Maker {
		return api.WreckWhy{Kind: api.WreckMaker}
	}
	if l[made].Day != c.Made {
		return api.WreckWhy{Kind: api.WreckDay}
	}
	marks := slowMarks(l, made, c.Day)
	if slices.Equal(marks, c.Marks) {
		return api.WreckWhy{}
	}
	same := 0
	for same < len(marks) && same < len(c.Marks) && marks[same] == c.Marks[same] {
		same++
	}
	return api.WreckWhy{Kind: api.WreckMark, Index: same}
}

func (d *dice) name() string { return pick(d, "bird", "sisson", "ramsden", "dollond") }

// record returns one that may follow others or not, of one of so many numbers, so many days later at most.
func (d *dice) record(l []api.WreckRecord, numbers, later int) api.WreckRecord {
	day := d.from(0, later)
	if len(l) > 0 {
		day += l[len(l)-1].Day
	}
	r := api.WreckRecord{Kind: pick(d, api.WreckMade, api.WreckMade, api.WreckMend, api.WreckMend, api.WreckAgain, api.WreckAgain, api.WreckLost), Day: day, Number: d.from(1, numbers)}
	if r.Kind == api.WreckMade || r.Kind == api.WreckMend {
		r.By = d.name()
	}
	if r.Kind == api.WreckAgain {
		r.New = d.from(1, numbers)
	}
	return r
}

// book returns a book of at most so many records, of so many numbers.
func (d *dice) book(records, numbers int) []api.WreckRecord {
	var l []api.WreckRecord
	later := pick(d, 0, 1, 3)
	for range 20 * records {
		if r := d.record(l, numbers, later); len(l) < records && slowFollows(l, r) {
			l = append(l, r)
		}
	}
	return l
}

// copied returns a claim on a day that is copied from the book, of the instrument that a record made, and whether it bears a number then.
func copied(l []api.WreckRecord, made, day int) (c api.WreckClaim, bears bool) {
	for number := 1; number < 100; number++ {
		if slowBears(l, made, number, day) {
			return api.WreckClaim{Number: number, Day: day, Maker: l[made].By, Made: l[made].Day, Marks: slowMarks(l, made, day)}, true
		}
	}
	return api.WreckClaim{}, false
}
