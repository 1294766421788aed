package rounds

import (
	"iter"
	"slices"

	"octant/api"
)

// giving is a net whose angles are given more seconds, or less, until they close, or nothing more goes on.
type giving struct {
	net
	angles []int         // what each angle has
	over   seconds       // what each place has over
	at     map[int][]int // the angles at each place
	gets   reached       // where the seconds get that are left over
}

// given returns the net whose angles have been given so much, each within its span, and then as much as brings them nearer to closing.
func (n net) given(angles []int) giving {
	g := giving{net: n, angles: angles, over: n.over(angles), at: n.around()}
	g.settle()
	return g
}

// settled returns the net whose angles close, if any do.
func (n net) settled() giving {
	var least []int
	for _, a := range n.Angles {
		least = append(least, a.Angle.Low)
	}
	return n.given(least)
}

// left returns how many seconds are left over; if there are any, no angles close.
func (g giving) left() int {
	return sum(func(x int) int { return max(x, 0) }, g.over[:]...)
}

// more returns how many seconds an angle can be given.
func (g *giving) more(number int) int { return g.Angles[number].Angle.High - g.angles[number] }

// less returns how many seconds an angle can give back.
func (g *giving) less(number int) int { return g.angles[number] - g.Angles[number].Angle.Low }

// step is one of seconds from a place to another one, through an angle.
type step struct {
	angle, to int
	sign      int // 1 if the angle is given them, -1 if it gives them back
	room      int // how many can go on
}

// step returns the one from a place through an angle there.
func (g *giving) step(from, number int) step {
	room, to, sign := (*giving).less, g.triangle(number), -1
	if to == from {
		room, to, sign = (*giving).more, g.station(number), 1
	}
	return step{number, to, sign, room(g, number)}
}

// steps produces those from a place on which seconds can go on.
func (g *giving) steps(from int) iter.Seq[step] {
	return func(yield func(step) bool) {
		for _, number := range g.at[from] {
			if s := g.step(from, number); s.room > 0 && !yield(s) {
				return
			}
		}
	}
}

// reach returns where the seconds get that are over, and behind how many steps.
func (g *giving) reach() (now reached, steps [places]int) {
	for place, x := range g.over {
		now[place] = x > 0
	}
rounds:
	for round := 1; ; round++ {
		before := now
		for place := range places {
			if !before[place] {
				continue
			}
			for s := range g.steps(place) {
				if !now[s.to] {
					now[s.to], steps[s.to] = true, round
				}
			}
		}
		if now == before {
			break rounds
		}
	}
	return now, steps
}

// goOn lets seconds that are over at a place go on along one way to a place that lacks some, and returns how many did. A way takes no more steps to any place than there must be: so there are few ways until nothing goes on, however many seconds there are.
func (g *giving) goOn(from int, steps [places]int) int {
	var tried reached
	var on func(at, most int) int
	on = func(at, most int) int {
		if g.over[at] < 0 {
			gone := min(most, -g.over[at])
			g.over[at] += gone
			return gone
		}
		tried[at] = true
		for s := range g.steps(at) {
			if tried[s.to] || steps[s.to] != steps[at]+1 {
				continue
			}
			if gone := on(s.to, min(most, s.room)); gone > 0 {
				g.angles[s.angle] += s.sign * gone
				return gone
			}
		}
		return 0
	}
	gone := on(from, g.over[from])
	g.over[from] -= gone
	return gone
}

// settle lets seconds go on until none do.
func (g *giving) settle() {
	for {
		gets, steps := g.reach()
		gone := 0
		for place := range places {
			if g.over[place] > 0 {
				gone += g.goOn(place, steps)
			}
		}
		if gone == 0 {
			g.gets = gets
			return
		}
	}
}

// spans returns between what each angle lies, if the angles close.
func (g giving) spans() []api.Span {
	var list []api.Span
	for i := range g.Angles {
		list = append(list, api.Span{Low: g.farthest(i, lower()), High: g.farthest(i, upper())})
	}
	return list
}

// farthest returns the number nearest to an end of an angle's span with which angles close.
func (g giving) farthest(number int, x end) int {
	want := x.of(g.Angles[number].Angle)
	angles := slices.Clone(g.angles)
	angles[number] = want
	// what cannot go on to or from the others, while this angle is held at the end, it must do without
	held := g.with(number, api.Span{Low: want, High: want}).given(angles)
	return want + x.inwards*held.left()
}
