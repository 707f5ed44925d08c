package impl

import "slices"

// Limits of coordinates.
const (
	CoordMax     = 100000
	CoordMaxErr  = 1500
	CoordMaxTrip = 60000
	CoordKeep    = 3
)

// Coord is where somebody is: a place, how high above it, and how wrong that may be.
type Coord struct {
	X int
	Y int
	H int
	E int
}

// spot is a place without its height, or a way from one such place to another.
type spot struct {
	x int
	y int
}

// coordTurns are the ways on which two at one place part, by the last two bits of a turn.
var coordTurns = [4]spot{{1, 0}, {0, 1}, {-1, 0}, {0, -1}}

func (s spot) spotOk() bool {
	return within(s.x, -CoordMax, CoordMax) && within(s.y, -CoordMax, CoordMax)
}

func (s spot) wayFrom(other spot) spot {
	return spot{s.x - other.x, s.y - other.y}
}

func (s spot) length() int {
	return FixNorm(s.x, s.y)
}

func (s spot) pushed(p push) spot {
	return spot{
		bounded(s.x+p.force*p.way.x/p.length, -CoordMax, CoordMax),
		bounded(s.y+p.force*p.way.y/p.length, -CoordMax, CoordMax),
	}
}

// height is how high somebody is above its place.
type height struct {
	h int
}

func (h height) heightOk() bool {
	return within(h.h, 0, CoordMax)
}

func (h height) lifted(p push) height {
	return height{bounded(h.h+p.force/4, 0, CoordMax)}
}

// stand is a coordinate in its parts, each of which moves by a rule of its own.
type stand struct {
	spot
	height
	err int
}

func standOf(c Coord) stand {
	return stand{spot{c.X, c.Y}, height{c.H}, c.E}
}

// share is what one takes on of an amount: the more wrong it is beside the other one, the more, but a quarter at most.
func (s stand) share(amount int, other stand) int {
	return amount * s.err / (s.err + other.err) / 4
}

// push is a force along a way; it keeps the length, so that nothing divides by that of a way between two at one place.
type push struct {
	way    spot
	length int
	force  int
}

// pushAlong lets nobody be drawn beyond the one it is drawn to; two at one place can only be driven apart.
func pushAlong(way spot, force int, turn int) push {
	length := way.length()
	switch {
	case length != 0:
		return push{way, length, max(force, -length)}
	case force < 0:
		return push{spot{}, 1, force}
	}
	return push{coordTurns[turn&3], 1, force}
}

func within(n int, least int, most int) bool {
	return least <= n && n <= most
}

func bounded(n int, least int, most int) int {
	return min(max(n, least), most)
}

// CoordNew is where somebody is at first.
func CoordNew() Coord {
	return Coord{E: CoordMaxErr}
}

// CoordOk says whether a coordinate is ok.
func CoordOk(c Coord) bool {
	s := standOf(c)
	return s.spotOk() && s.heightOk() && within(s.err, 1, CoordMaxErr)
}

// CoordDist is how far two are from each other.
func CoordDist(a Coord, b Coord) int {
	if !CoordOk(a) || !CoordOk(b) {
		return 0
	}
	here, there := standOf(a), standOf(b)
	return here.wayFrom(there.spot).length() + here.h + there.h
}

// CoordMove is where somebody is behind a trip to another one and back; turn says which way, if both are at one place.
func CoordMove(a Coord, b Coord, trip int, turn int) Coord {
	if !CoordOk(a) {
		return Coord{}
	}
	if !CoordOk(b) || !within(trip, 1, CoordMaxTrip) {
		return a
	}
	here, there := standOf(a), standOf(b)
	wrong := trip - CoordDist(a, b)
	p := pushAlong(here.wayFrom(there.spot), here.share(wrong, there), turn)
	place := here.pushed(p)
	now := min(max(wrong, -wrong)*FixOne/trip, CoordMaxErr)
	return Coord{
		X: place.x,
		Y: place.y,
		H: here.lifted(p).h,
		E: bounded(a.E+here.share(now-a.E, there), 1, CoordMaxErr),
	}
}

// CoordMedian is the middle one of trips.
func CoordMedian(trips []int) int {
	if len(trips) == 0 {
		return 0
	}
	// A copy is sorted, as the trips stay their owner's.
	last := slices.Clone(trips[max(len(trips)-CoordKeep, 0):])
	slices.Sort(last)
	return last[(len(last)-1)/2]
}
