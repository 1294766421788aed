package level

import (
	"maps"

	"octant/api"
)

// evidence is what readings tell of how far a tilt has moved the bubble.
type evidence interface {
	moved(zero int) api.Span // in half marks, if the zero is so
}

// direct is between what the true middle lies, by direct readings.
type direct api.Span

func (d direct) moved(zero int) api.Span {
	return api.Span{Low: d.Low - zero, High: d.High - zero}
}

// reversed is between what the true middle lies, by readings that are turned.
type reversed api.Span

func (r reversed) moved(zero int) api.Span {
	return api.Span{Low: zero - r.High, High: zero - r.Low}
}

// kind is a kind of readings, and what evidence it makes of a span of the true middle.
type kind struct {
	turned bool
	tell   func(middle api.Span) evidence
}

// kinds returns both kinds of readings.
func kinds() [2]kind {
	return [2]kind{
		{false, func(middle api.Span) evidence { return direct(middle) }},
		{true, func(middle api.Span) evidence { return reversed(middle) }},
	}
}

// middles tells for each kind of readings, by whether it is turned, between what the true middle lies by all readings of it: they can be so just if it lies within what each of them allows.
type middles map[bool]api.Span

// with returns the middles with one reading more.
func (m middles) with(turned bool, middle api.Span) middles {
	narrowed := maps.Clone(m)
	if before, known := m[turned]; known {
		middle = common(before, middle)
	}
	narrowed[turned] = middle
	return narrowed
}

// evidence returns what all readings tell.
func (m middles) evidence() []evidence {
	var list []evidence
	for _, k := range kinds() {
		if middle, known := m[k.turned]; known {
			list = append(list, k.tell(middle))
		}
	}
	return list
}

// agree reports whether all readings can be so in a truth.
func (m middles) agree(t api.LevelTruth) bool {
	for _, one := range m.evidence() {
		moved := one.moved(t.Zero)
		if !within(t.Tilt, t.Value*moved.Low, t.Value*moved.High) {
			return false
		}
	}
	return true
}
