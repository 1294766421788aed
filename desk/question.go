package desk

import (
	"strings"

	"octant/api"
	"octant/index"
	"octant/sextant"
	"octant/wreck"
)

// questions returns what lines answer that ask, by their words.
func questions() map[string]task {
	return map[string]task{
		"read":  {letters: "NAS", do: (*books).read},
		"class": {letters: "N", do: (*books).grade},
		"who":   {letters: "N", do: (*books).who},
		"cut":   {letters: "L", do: (*books).cut},
		"trace": {letters: "ND", do: (*books).trace},
		"judge": {letters: "NDWY", more: "Z", do: (*books).judge},
	}
}

// none is the answer where there is no owner, or no number.
const none = "-"

func (b *books) read(x told) string {
	s := b.sextantOf(b.known(x.numbers['N']))
	angle, e := sextant.Read(s, readingOf(x, s))
	need(e == api.OK, api.ErrDeskTrial)
	return answerOf(angle.Low, angle.High)
}

func (b *books) grade(x told) string {
	class, fault, _ := sextant.Class(b.sextantOf(b.known(x.numbers['N'])))
	return answerOf(class, fault)
}

func (b *books) who(x told) string {
	own := b.known(x.numbers['N'])
	if own.isInShop() {
		return none
	}
	return own.owner
}

func (b *books) cut(x told) string {
	circle, engraved, e := index.Best(b.head(), x.numbers['L'])
	need(e == api.OK, api.ErrRange)
	return answerOf(circle, engraved)
}

func (b *books) trace(x told) string {
	made, e := wreck.Trace(b.book(), x.numbers['N'], x.numbers['D'])
	need(e != api.ErrWreckAsk, api.ErrRange)
	need(e == api.OK, e)
	own := b.madeBy(made)
	if own.lost {
		return none
	}
	return answerOf(own.number)
}

func (b *books) judge(x told) string {
	claim := api.WreckClaim{Number: x.numbers['N'], Day: x.numbers['D'], Maker: x.texts['W'], Made: x.numbers['Y']}
	if marks, has := x.texts['Z']; has {
		claim.Marks = strings.Split(marks, ",")
	}
	why, e := wreck.Judge(b.book(), claim)
	need(e == api.OK, api.ErrDeskClaim)
	return answerOf(why.Kind, why.Index)
}
