package rounds

import "octant/api"

// A place is a triangle, which hands on as many seconds as its angles have together, a closed station, which takes as many as go round, or all stations that are not closed, as one place, which takes the others. Each angle hands its own seconds from its triangle to the place of its station.
const (
	firstStation = api.RoundsTriangles               // the place of the station 0, if it is closed
	elsewhere    = firstStation + api.RoundsStations // the place of the stations that are not closed
	places       = elsewhere + 1
)

// seconds are so many at each place.
type seconds [places]int

// reached tells of each place whether seconds get there.
type reached [places]bool

// triangle returns the place that an angle hands seconds from.
func (n net) triangle(number int) int { return n.Angles[number].Triangle }

// station returns the place that an angle hands seconds to.
func (n net) station(number int) int {
	if s := n.Angles[number].Station; n.Closed[s] {
		return firstStation + s
	}
	return elsewhere
}

// around returns the numbers of the angles at each place.
func (n net) around() map[int][]int {
	at := map[int][]int{}
	for i := range n.Angles {
		at[n.triangle(i)] = append(at[n.triangle(i)], i)
		at[n.station(i)] = append(at[n.station(i)], i)
	}
	return at
}

// over returns how many seconds each place has over (below 0: how many it lacks), with a number for each angle; they are 0 together.
func (n net) over(angles []int) seconds {
	var all seconds
	for t := range n.Triangles {
		all[t] = api.RoundsTriangle
	}
	for s, closed := range n.Closed {
		if closed {
			all[firstStation+s] = -api.RoundsCircle
		}
	}
	all[elsewhere] = -sum(itself, all[:]...)
	for i, x := range angles {
		all[n.triangle(i)] -= x
		all[n.station(i)] += x
	}
	return all
}

func itself(x int) int { return x }
