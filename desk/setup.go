package desk

import (
	"strings"

	"octant/api"
	"octant/index"
	"octant/sextant"
)

func isSetup(s api.DeskSetup) bool {
	return index.Check(s.Head) == api.OK && areModels(s.Models) &&
		within(s.Bound, 0, api.IndexTurn) && within(s.Day, 0, api.MaxDay)
}

// areModels reports whether models are those of a setup.
func areModels(l []api.DeskModel) bool {
	if len(l) > api.DeskModels {
		return false
	}
	known := map[string]bool{}
	for _, m := range l {
		if known[m.Name] || !isModel(m) {
			return false
		}
		known[m.Name] = true
	}
	return true
}

func isModel(m api.DeskModel) bool {
	return isName(m.Name) && sextant.Check(m.Sextant) == api.OK &&
		within(m.Lines, 1, api.IndexCut) && within(m.Price, 0, api.DeskPrice)
}

// copiedSetup returns a setup that shares no memory with another one.
func copiedSetup(s api.DeskSetup) api.DeskSetup {
	s.Head.Circles = copied(s.Head.Circles)
	s.Models = copied(s.Models)
	for i := range s.Models {
		m := &s.Models[i]
		m.Name, m.Sextant = strings.Clone(m.Name), copiedSextant(m.Sextant)
	}
	return s
}

// copiedSextant returns a sextant that shares no memory with another one.
func copiedSextant(s api.Sextant) api.Sextant {
	s.Table, s.Shade = copied(s.Table), copied(s.Shade)
	return s
}
