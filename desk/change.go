package desk

import (
	"octant/api"
	"octant/index"
	"octant/sextant"
)

// changes returns what lines do that change something, by their words.
func changes() map[string]task {
	return map[string]task{
		"day":   {letters: "T", do: (*books).turnTo},
		"make":  {letters: "NMW", do: (*books).build},
		"try":   {letters: "NAST", do: (*books).try},
		"sell":  {letters: "NW", do: (*books).sell},
		"back":  {letters: "N", do: (*books).takeBack},
		"mend":  {letters: "NW", do: (*books).mend},
		"again": {letters: "NK", do: (*books).renumber},
		"lose":  {letters: "N", do: (*books).lose},
	}
}

func (b *books) turnTo(x told) string {
	day := x.numbers['T']
	need(within(day, b.day, api.MaxDay), api.ErrRange)
	b.day = day
	return answerOf()
}

func (b *books) build(x told) string {
	model, maker, number := b.modelOf(x.texts['M']), x.texts['W'], x.numbers['N']
	need(isName(maker), api.ErrForm)
	b.needNew(number)
	need(len(b.instruments) < api.DeskPieces, api.ErrFull)
	_, engraved, _ := index.Best(b.head(), b.setup.Models[model].Lines)
	need(engraved <= b.setup.Bound, api.ErrDeskCut)
	b.record(api.WreckRecord{Kind: api.WreckMade, Number: number, By: maker})
	b.instruments = append(b.instruments, instrument{number: number, model: model})
	return answerOf(engraved)
}

func (b *books) try(x told) string {
	own := b.inShop(x.numbers['N'])
	count := len(own.trials)
	need(count < api.SextantTrials, api.ErrFull)
	model := b.modelSextant(own)
	trial := api.SextantTrial{SextantReading: readingOf(x, model), True: x.numbers['T']}
	trials := append(own.trials[:count:count], trial)
	_, _, e := sextant.Trial(model, trials)
	need(e != api.ErrSextantTrial, api.ErrDeskTrial)
	need(e != api.ErrSextantFalse, api.ErrDeskFalse)
	own.trials = trials
	return answerOf(b.class(own))
}

func (b *books) sell(x told) string {
	own, owner := b.inShop(x.numbers['N']), x.texts['W']
	need(isName(owner), api.ErrForm)
	need(b.class(own) < worstClass, api.ErrDeskClass)
	own.owner = owner
	return answerOf(b.setup.Models[own.model].Price)
}

func (b *books) takeBack(x told) string {
	own := b.sold(x.numbers['N'])
	own.owner = nobody
	return answerOf()
}

func (b *books) mend(x told) string {
	own, mender := b.inShop(x.numbers['N']), x.texts['W']
	need(isName(mender), api.ErrForm)
	b.record(api.WreckRecord{Kind: api.WreckMend, Number: own.number, By: mender})
	own.mends++
	own.trials = nil
	return answerOf(own.mends)
}

func (b *books) renumber(x told) string {
	own, number := b.inShop(x.numbers['N']), x.numbers['K']
	b.needNew(number)
	b.record(api.WreckRecord{Kind: api.WreckAgain, Number: own.number, New: number})
	own.number = number
	return answerOf()
}

func (b *books) lose(x told) string {
	own := b.sold(x.numbers['N'])
	b.record(api.WreckRecord{Kind: api.WreckLost, Number: own.number})
	own.lost = true
	left := 0
	for i := range len(b.instruments) {
		if !b.instruments[i].lost {
			left++
		}
	}
	return answerOf(left)
}
