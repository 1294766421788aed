package wreck

import (
	"iter"
	"strings"

	"octant/api"
)

const (
	leastSide = 2   // rows, and columns, of a page
	unread    = '?' // stands for a lost digit
)

// rows are those of a page.
type rows [][]string

func (r rows) valid() bool {
	if !within(len(r), leastSide, api.WreckSide) || !within(len(r[0]), leastSide, api.WreckSide) {
		return false
	}
	lost := 0
	for _, row := range r {
		if len(row) != r.columns() {
			return false
		}
		for _, entry := range row {
			if !isEntry(entry) {
				return false
			}
			lost += strings.Count(entry, string(unread))
		}
	}
	return lost <= api.WreckUnread
}

// isEntry reports whether a text is an entry of a page.
func isEntry(s string) bool {
	if !within(len(s), 1, api.WreckDigits) || len(s) > 1 && s[0] == '0' {
		return false
	}
	for i := range len(s) {
		if !isDigit(s[i]) && s[i] != unread {
			return false
		}
	}
	return true
}

// columns returns how many the page has.
func (r rows) columns() int { return len(r[0]) }

// entry returns the one that a byte is of.
func (r rows) entry(at api.WreckPlace) string { return r[at.Row][at.Col] }

// bytes produces the bytes of all entries with their places, in order.
func (r rows) bytes() iter.Seq2[api.WreckPlace, byte] {
	return func(yield func(api.WreckPlace, byte) bool) {
		for row := range r {
			for col, entry := range r[row] {
				for at := range len(entry) {
					if !yield(api.WreckPlace{Row: row, Col: col, At: at}, entry[at]) {
						return
					}
				}
			}
		}
	}
}

// text returns that of the page.
func (r rows) text() string {
	var b strings.Builder
	for _, row := range r {
		b.WriteString(strings.Join(row, " "))
		b.WriteByte('\n')
	}
	return b.String()
}

// parsed returns the page of a text.
func parsed(s string) (p [][]string, e api.Errno) {
	defer func() {
		if recover() != nil {
			p, e = nil, api.ErrForm
		}
	}()
	for line := range strings.Lines(s) {
		p = append(p, rowOf(line))
	}
	need(rows(p).valid())
	return p, api.OK
}

// rowOf returns the row of a line of a text.
func rowOf(line string) []string {
	list, ended := strings.CutSuffix(line, "\n")
	need(ended)
	var row []string
	for entry := range strings.SplitSeq(list, " ") {
		row = append(row, strings.Clone(entry)) // the row is not to keep the whole text
	}
	return row
}

// need leaves a text that cannot be read, unless something holds that must.
func need(holds bool) {
	if !holds {
		panic(api.ErrForm)
	}
}
