package wreck

import (
	"slices"

	"octant/api"
)

// record is a record in the calculation.
type record struct{ api.WreckRecord }

// has reports whether a record has a number, as Number or as New.
func (r record) has(number int) bool { return r.Number == number || r.New == number }

// gives reports whether an instrument gets a number by a record.
func (r record) gives(number int) bool {
	return r.Kind == api.WreckMade && r.Number == number || r.Kind == api.WreckAgain && r.New == number
}

// takes reports whether an instrument loses a number by a record.
func (r record) takes(number int) bool {
	return (r.Kind == api.WreckAgain || r.Kind == api.WreckLost) && r.Number == number
}

// rule is what records of a kind must keep to.
type rule struct {
	signed    bool                    // By is a name: otherwise it is empty
	renumbers bool                    // New is a number that is not known yet: otherwise it is 0
	numbered  func(record, book) bool // what the Number must be, behind the records before
}

// follows reports whether a record is one of its kind behind the records before.
func (r record) follows(before book) bool {
	rules := [...]rule{
		api.WreckMade:  {signed: true, numbered: record.isNew},
		api.WreckMend:  {signed: true, numbered: record.isOfUsed},
		api.WreckAgain: {renumbers: true, numbered: record.isOfUsed},
		api.WreckLost:  {numbered: record.isOfUsed},
	}
	if !within(r.Kind, api.WreckMade, api.WreckLost) || !isNumber(r.Number) {
		return false
	}
	own := rules[r.Kind]
	return r.isSigned(own.signed) && r.isRenumbered(own.renumbers, before) && own.numbered(r, before)
}

func (r record) isSigned(signed bool) bool {
	if !signed {
		return r.By == ""
	}
	return isName(r.By)
}

func (r record) isRenumbered(renumbers bool, before book) bool {
	if !renumbers {
		return r.New == 0
	}
	// a New that is the Number is known, too: the Number is in use
	return isNumber(r.New) && !before.knows(r.New)
}

func (r record) isNew(before book) bool    { return !before.knows(r.Number) }
func (r record) isOfUsed(before book) bool { return before.uses(r.Number) }

// book is a book in the calculation.
type book []api.WreckRecord

func (b book) valid() bool {
	if len(b) > api.WreckRecords {
		return false
	}
	last := 0
	for i, x := range b {
		if !within(x.Day, last, api.MaxDay) || !(record{x}).follows(b[:i:i]) {
			return false
		}
		last = x.Day
	}
	return true
}

// knows reports whether some record has a number.
func (b book) knows(number int) bool {
	for _, x := range b {
		if (record{x}).has(number) {
			return true
		}
	}
	return false
}

// uses reports whether a number is in use behind the last record.
func (b book) uses(number int) bool {
	for _, x := range slices.Backward(b) {
		if (record{x}).has(number) {
			return !record{x}.takes(number)
		}
	}
	return false
}

// instrument is one of a book: the index of its WreckMade among the records of the book, and all its records, of which this is the first one.
type instrument struct {
	made    int
	records []record
}

// instruments returns those of the book, in the order in which they were made.
func (b book) instruments() []instrument {
	var list []instrument
	which := map[int]int{} // by the numbers so far: none of them is ever another instrument's
	for i, x := range b {
		if x.Kind == api.WreckMade {
			which[x.Number] = len(list)
			list = append(list, instrument{made: i})
		}
		own := which[x.Number]
		list[own].records = append(list[own].records, record{x})
		if x.Kind == api.WreckAgain {
			which[x.New] = own
		}
	}
	return list
}

// moment is a number on a day.
type moment struct{ number, day int }

// isOf reports whether an instrument bears the number on the day.
func (m moment) isOf(x instrument) bool {
	bears := false
	for _, r := range x.records {
		if r.Day > m.day {
			break
		}
		bears = (bears || r.gives(m.number)) && !r.takes(m.number)
	}
	return bears
}

// bearer returns the instrument that bears a number on a day, and whether there is one.
func (b book) bearer(number, day int) (x instrument, found bool) {
	return first(moment{number, day}.isOf, b.instruments()...)
}
