package level

// further is a kind of further reading, and its gain.
type further struct {
	turned bool
	width  int
}

// tighter reports whether a further reading has less gain than another one.
func (f further) tighter(other further) bool { return f.width < other.width }

// next returns the kind of further reading that has the least gain.
func (v vial) next(m middles) further {
	var list []further
	for _, k := range kinds() {
		if gain, some := v.gain(m, k.turned); some {
			list = append(list, further{k.turned, gain})
		}
	}
	return best(further.tighter, list[0], list[1:]...) // there is one: what was read can be read again
}

// gain returns the gain of a kind of further reading, and whether there is any such reading.
func (v vial) gain(m middles, turned bool) (gain int, some bool) {
	for middle := range 2*v.Marks + 1 {
		found := v.truths(m.with(turned, v.near(middle)))
		if found != nothing() {
			gain, some = max(gain, width(found.tilt)), true
		}
	}
	return gain, some
}
