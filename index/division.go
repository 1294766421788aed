package index

import "octant/api"

// errorCounts tells how many lines have each error, without its sign: no line is cut by more than half of n wrongly.
type errorCounts [api.IndexCut/2 + 1]int

// division is the lines of a circle that is cut line by line.
type division struct {
	head
	circle, lines int
	errors        errorCounts
}

func newDivision(h head, circle, n int) division {
	d := division{head: h, circle: circle, lines: n}
	for k := range n {
		wrong := d.place(k)*n - k*d.round(circle)
		d.errors[max(wrong, -wrong)]++
	}
	return d
}

// place returns the hole that is nearest to the line k, of two the lower one.
func (d division) place(k int) int {
	at := k * d.round(d.circle)
	p := at / d.lines
	if 2*(at%d.lines) > d.lines {
		p++
	}
	return p
}

// places returns the places of all lines.
func (d division) places() []int {
	var list []int
	for k := range d.lines {
		list = append(list, d.place(k))
	}
	return list[:len(list):len(list)]
}

// exact reports whether no line has an error.
func (d division) exact() bool { return d.errors == errorCounts{d.lines} }

// fault returns the greatest error of a line, without its sign.
func (d division) fault() int {
	wrong := len(d.errors) - 1
	for d.errors[wrong] == 0 { // the line 0 has no error, so that this ends
		wrong--
	}
	return wrong
}

// finer reports whether a circle is better than another one.
func (d division) finer(other division) bool {
	return d.fault()*other.Circles[other.circle] < other.fault()*d.Circles[d.circle]
}

// engraved returns the fault in hundredths of a second, rounded up.
func (d division) engraved() int {
	whole := d.lines * d.round(d.circle)
	return (d.fault()*api.IndexTurn + whole - 1) / whole
}

// bestDivision returns the division on the best circle.
func bestDivision(h head, n int) division {
	var list []division
	for circle := range h.Circles {
		d := newDivision(h, circle, n)
		list = append(list, d)
		if d.exact() { // no circle behind it can be better
			break
		}
	}
	return best(division.finer, list[0], list[1:]...)
}
