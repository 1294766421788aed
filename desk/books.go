package desk

import (
	"octant/api"
	"octant/sextant"
)

// books are what a desk has.
type books struct {
	setup       api.DeskSetup
	day         int
	instruments []instrument
	records     []api.WreckRecord
	journal     []string
}

func booksOf(s api.DeskSetup) books {
	s = copiedSetup(s)
	return books{setup: s, day: s.Day}
}

// nobody is the owner of what is in the shop.
const nobody = ""

// instrument is one that was made.
type instrument struct {
	number, model int
	owner         string
	lost          bool
	mends         int
	trials        []api.SextantTrial
}

func (x *instrument) isInShop() bool { return x.owner == nobody }

// piece returns what the desk tells of the instrument.
func (x *instrument) piece() api.DeskPiece {
	return api.DeskPiece{Number: x.number, Model: x.model, Owner: x.owner, Lost: x.lost, Mends: x.mends, Trials: len(x.trials)}
}

// known returns the instrument that has a number, unless this is unknown.
func (b *books) known(number int) *instrument {
	has := func(i int) bool { return b.instruments[i].number == number }
	var found *instrument
search:
	for i := range len(b.instruments) {
		switch {
		case b.instruments[i].lost: // a lost one is not known any more
		case has(i):
			found = &b.instruments[i]
			break search
		}
	}
	need(found != nil, api.ErrDeskUnknown)
	return found
}

// inShop returns the instrument that has a number, if it is in the shop.
func (b *books) inShop(number int) *instrument {
	x := b.known(number)
	need(x.isInShop(), api.ErrDeskPlace)
	return x
}

// sold returns the instrument that has a number, if it is not in the shop.
func (b *books) sold(number int) *instrument {
	x := b.known(number)
	need(!x.isInShop(), api.ErrDeskPlace)
	return x
}

// needNew leaves a line unless an instrument can get a number.
func (b *books) needNew(number int) {
	need(within(number, 1, api.WreckNumber), api.ErrRange)
	for _, r := range b.records {
		need(r.Number != number && r.New != number, api.ErrDeskTwice)
	}
}

// record adds a record of the day. A line does this before it changes anything, as there may be no room.
func (b *books) record(r api.WreckRecord) {
	need(len(b.records) < api.WreckRecords, api.ErrFull)
	r.Day = b.day
	b.records = append(b.records, r)
}

// book returns the records, to be handed on.
func (b *books) book() []api.WreckRecord { return b.records[:len(b.records):len(b.records)] }

// madeBy returns the instrument of a WreckMade, of which the index among the records is given.
func (b *books) madeBy(record int) *instrument {
	before := 0
	for _, r := range b.records[:record] {
		if r.Kind == api.WreckMade {
			before++
		}
	}
	return &b.instruments[before]
}

// head returns the dividing head of the shop, to be handed on.
func (b *books) head() api.IndexHead {
	h := b.setup.Head
	h.Circles = h.Circles[:len(h.Circles):len(h.Circles)]
	return h
}

// modelOf returns the index of the model with a name, unless this is unknown.
func (b *books) modelOf(name string) int {
	for i, m := range b.setup.Models {
		if m.Name == name {
			return i
		}
	}
	panic(reason{api.ErrDeskUnknown})
}

// modelSextant returns what the sextant of an instrument is like without trials.
func (b *books) modelSextant(x *instrument) api.Sextant {
	return copiedSextant(b.setup.Models[x.model].Sextant)
}

// sextantOf returns the sextant of an instrument.
func (b *books) sextantOf(x *instrument) api.Sextant {
	s := b.modelSextant(x)
	if count := len(x.trials); count > 0 {
		// each of these trials was taken because they can all be so
		table, index, _ := sextant.Trial(s, x.trials[:count:count])
		s.Table, s.Index = table, index
	}
	return s
}

// worstClass is that of a sextant that is not sold.
const worstClass = 3

// class returns that of an instrument.
func (b *books) class(x *instrument) int {
	class, _, _ := sextant.Class(b.sextantOf(x))
	return class
}
