package tests

import (
	"fmt"
	"math"
	"slices"
	"testing"

	"loop.example/lightship/impl"
)

const (
	coordMax     = 100000
	coordMaxErr  = 1500
	coordMaxTrip = 60000
)

func at(x int, y int, h int, e int) impl.Coord {
	return impl.Coord{X: x, Y: y, H: h, E: e}
}

var badTrips = []int{math.MinInt, -1, 0, coordMaxTrip + 1, math.MaxInt}
var goodTrips = []int{1, 2, 3, 62, 1000, 30000, coordMaxTrip - 1, coordMaxTrip}
var someTurns = []int{math.MinInt, -6, -5, -4, -3, -2, -1, 0, 1, 2, 3, 4, 5, 6, 7, math.MaxInt}

// badCoords are each one beyond a bound by one part alone, but for the last.
func badCoords() []impl.Coord {
	return []impl.Coord{
		at(coordMax+1, 0, 0, 1), at(-coordMax-1, 0, 0, 1), at(math.MaxInt, 0, 0, 1), at(math.MinInt, 0, 0, 1),
		at(0, coordMax+1, 0, 1), at(0, -coordMax-1, 0, 1), at(0, math.MaxInt, 0, 1), at(0, math.MinInt, 0, 1),
		at(0, 0, coordMax+1, 1), at(0, 0, -1, 1), at(0, 0, math.MaxInt, 1), at(0, 0, math.MinInt, 1),
		at(0, 0, 0, coordMaxErr+1), at(0, 0, 0, 0), at(0, 0, 0, -1), at(0, 0, 0, math.MaxInt), at(0, 0, 0, math.MinInt),
		at(math.MinInt, math.MaxInt, math.MinInt, math.MinInt),
	}
}

// edgeCoords are ok, with each part at its bounds or beside them.
func edgeCoords() []impl.Coord {
	var list []impl.Coord
	for _, x := range []int{-coordMax, -1, 0, 30, coordMax} {
		for _, y := range []int{-coordMax, 0, 1, coordMax} {
			for _, h := range []int{0, 5, coordMax} {
				for _, e := range []int{1, 1000, coordMaxErr} {
					list = append(list, at(x, y, h, e))
				}
			}
		}
	}
	return list
}

func drawCoord(d *draws) impl.Coord {
	reach := d.oneOf([]int{2, 10, 1000, 30000, coordMax})
	high := d.oneOf([]int{0, 2, 100, 10000, coordMax})
	err := d.oneOf([]int{1, 10, coordMaxErr})
	return at(d.between(-reach, reach), d.between(-reach, reach), d.between(0, high), d.between(1, err))
}

type trip struct {
	a, b impl.Coord
	took int
	turn int
}

func (r trip) end() impl.Coord {
	return impl.CoordMove(r.a, r.b, r.took, r.turn)
}

// okTrips are trips between ok ones that took what may be: far and near, too short and too long.
func okTrips() []trip {
	var list []trip
	edges := edgeCoords()
	for i, a := range edges {
		for j, b := range edges {
			list = append(list, trip{a, b, goodTrips[(i+j)%len(goodTrips)], i - j})
		}
	}
	d := &draws{2}
	for range 100000 {
		a, b := drawCoord(d), drawCoord(d)
		if d.between(0, 3) == 0 {
			b.X, b.Y = a.X+d.between(-1, 1), a.Y+d.between(-1, 1)
		}
		if !impl.CoordOk(b) {
			continue
		}
		took := d.oneOf(goodTrips)
		if d.between(0, 1) == 0 {
			took = impl.CoordDist(a, b) + d.between(-50, 50)
		}
		list = append(list, trip{a, b, min(max(took, 1), coordMaxTrip), d.between(-9, 9)})
	}
	return list
}

func TestCoordLimits(t *testing.T) {
	expect(t, "CoordMax", impl.CoordMax, coordMax)
	expect(t, "CoordMaxErr", impl.CoordMaxErr, coordMaxErr)
	expect(t, "CoordMaxTrip", impl.CoordMaxTrip, coordMaxTrip)
	expect(t, "CoordKeep", impl.CoordKeep, 3)
	expect(t, "CoordNew", impl.CoordNew(), at(0, 0, 0, coordMaxErr))
}

func TestCoordOk(t *testing.T) {
	for _, c := range edgeCoords() {
		expect(t, fmt.Sprint("ok ", c), impl.CoordOk(c), true)
	}
	for _, c := range badCoords() {
		expect(t, fmt.Sprint("ok ", c), impl.CoordOk(c), false)
	}
	expect(t, "ok of nothing", impl.CoordOk(impl.Coord{}), false)
	expect(t, "ok of a new one", impl.CoordOk(impl.CoordNew()), true)
}

func TestCoordDistByHand(t *testing.T) {
	for _, c := range []struct {
		a, b impl.Coord
		want int
	}{
		{at(0, 0, 0, 1), at(0, 0, 0, 1), 0},
		{at(3, 0, 0, 1), at(0, 4, 0, 9), 5},
		{at(-3, 1, 10, 1), at(3, 9, 20, 1), 40},
		{at(1, 1, 0, 1), at(0, 0, 0, 1), 1},
		{at(7, 7, 5, 1), at(7, 7, 6, 1), 11},
		{at(coordMax, coordMax, coordMax, 1), at(-coordMax, -coordMax, coordMax, coordMaxErr), 482842},
		{at(coordMax, 0, 0, 1), at(-coordMax, 0, 0, 1), 200000},
	} {
		expect(t, fmt.Sprint("from ", c.a, " to ", c.b), impl.CoordDist(c.a, c.b), c.want)
	}
}

func TestCoordDistOfOnesThatAreNotOk(t *testing.T) {
	good := at(30, 40, 5, 1000)
	for _, bad := range badCoords() {
		expect(t, fmt.Sprint("from ", bad), impl.CoordDist(bad, good), 0)
		expect(t, fmt.Sprint("to ", bad), impl.CoordDist(good, bad), 0)
		expect(t, fmt.Sprint("both ", bad), impl.CoordDist(bad, bad), 0)
	}
}

func TestCoordMoveByHand(t *testing.T) {
	for _, c := range []struct {
		why  string
		a, b impl.Coord
		took int
		want impl.Coord
	}{
		{"driven off", at(30, 40, 5, 1000), at(0, 0, 7, 1000), 142, at(36, 48, 7, 946)},
		{"drawn near", at(30, 40, 5, 1000), at(0, 0, 7, 1000), 22, at(27, 36, 4, 1062)},
		{"off on the other side", at(-30, -40, 5, 1000), at(0, 0, 7, 1000), 142, at(-36, -48, 7, 946)},
		{"the other one away from the middle", at(1030, 40, 5, 1000), at(1000, 0, 7, 1000), 142, at(1036, 48, 7, 946)},
		{"the surer one moves less", at(30, 40, 5, 500), at(0, 0, 7, 1500), 222, at(36, 48, 7, 513)},
		{"the least trip", at(30, 40, 5, 1000), at(0, 0, 7, 1000), 1, at(26, 35, 4, 1062)},
		{"the greatest trip", at(30, 40, 5, 1000), at(0, 0, 7, 1000), coordMaxTrip, at(4525, 6033, 1878, 1000)},
		{"as far as the other one", at(500, 0, 1000, 1500), at(0, 0, 4000, 1500), 1500, at(0, 0, 875, 1500)},
		{"not beyond the other one", at(499, 0, 1000, 1500), at(0, 0, 4000, 1500), 1499, at(0, 0, 876, 1500)},
		{"not beyond, from one step off", at(0, -1, 1000, 1500), at(0, 0, 4000, 1500), 1001, at(0, 0, 1000, 1500)},
		{"the error's part is cut", at(10, 0, 2, 1), at(0, 0, 0, 2), 1, at(10, 0, 2, 125)},
		{"a quarter of it is cut", at(10, 0, 3, 1), at(0, 0, 0, 2), 1, at(9, 0, 3, 125)},
		{"a step below 0 is cut", at(-3, 4, 0, 1000), at(0, 0, 0, 1000), 13, at(-3, 4, 0, 952)},
		{"not out on the right", at(coordMax, 0, 0, 1500), at(coordMax-1, 0, 0, 1500), coordMaxTrip, at(coordMax, 0, 1874, 1438)},
		{"not out on the left", at(-coordMax, 0, 0, 1500), at(1-coordMax, 0, 0, 1500), coordMaxTrip, at(-coordMax, 0, 1874, 1438)},
		{"not out ahead", at(0, coordMax, 0, 1500), at(0, coordMax-1, 0, 1500), coordMaxTrip, at(0, coordMax, 1874, 1438)},
		{"not out behind", at(0, -coordMax, 0, 1500), at(0, 1-coordMax, 0, 1500), coordMaxTrip, at(0, -coordMax, 1874, 1438)},
		{"not below the ground", at(1000, 0, 1, 1500), at(0, 0, 3000, 1500), 1, at(500, 0, 0, 1500)},
		{"errors are at most so great", at(0, 0, 0, 1), at(0, 0, coordMax, 1), 1, at(0, 0, 0, 188)},
		{"the least error stays", at(0, 0, 3, 1), at(0, 0, 4, 1), 7, at(0, 0, 3, 1)},
	} {
		for _, turn := range []int{0, 4, -4} {
			expect(t, c.why, impl.CoordMove(c.a, c.b, c.took, turn), c.want)
		}
	}
}

func TestCoordMoveOfTwoAtOnePlace(t *testing.T) {
	ways := [4][2]int{{1, 0}, {0, 1}, {-1, 0}, {0, -1}}
	a, b := at(-7, 9, 100, 1500), at(-7, 9, 200, 1500)
	for _, turn := range someTurns {
		way := ways[((turn%4)+4)%4]
		expect(t, fmt.Sprint("apart by ", turn), impl.CoordMove(a, b, 1100, turn), at(-7+100*way[0], 9+100*way[1], 125, 1404))
		expect(t, fmt.Sprint("the least step by ", turn), impl.CoordMove(a, b, 308, turn), at(-7+way[0], 9+way[1], 100, 1316))
		expect(t, fmt.Sprint("no step by ", turn), impl.CoordMove(a, b, 307, turn), at(-7, 9, 100, 1316))
		expect(t, fmt.Sprint("down by ", turn), impl.CoordMove(a, b, 60, turn), at(-7, 9, 93, 1500))
	}
}

func TestCoordMedianByHand(t *testing.T) {
	for _, c := range []struct {
		trips []int
		want  int
	}{
		{nil, 0}, {[]int{}, 0}, {[]int{7}, 7}, {[]int{-7}, -7},
		{[]int{1, 2}, 1}, {[]int{2, 1}, 1}, {[]int{3, 3}, 3},
		{[]int{1, 2, 3}, 2}, {[]int{1, 3, 2}, 2}, {[]int{2, 1, 3}, 2}, {[]int{2, 3, 1}, 2}, {[]int{3, 1, 2}, 2}, {[]int{3, 2, 1}, 2},
		{[]int{5, 5, 1}, 5}, {[]int{1, 5, 1}, 1},
		{[]int{2, 100, 50, 75}, 75}, {[]int{500, 1, 2, 3}, 2}, {[]int{9, 9, 9, 9, 1, 2, 3}, 2},
		{[]int{math.MaxInt, math.MinInt, 0}, 0}, {[]int{math.MinInt, math.MaxInt}, math.MinInt},
	} {
		expect(t, fmt.Sprint("middle of ", c.trips), impl.CoordMedian(c.trips), c.want)
	}
}

func TestPromise7NoCoordinateGetsOut(t *testing.T) {
	for _, r := range okTrips() {
		if !impl.CoordOk(r.end()) {
			t.Errorf("%v ends at %v", r, r.end())
		}
	}
	all := append(badCoords(), edgeCoords()...)
	for i, a := range all {
		for _, b := range badCoords() {
			r := trip{a, b, goodTrips[i%len(goodTrips)], someTurns[i%len(someTurns)]}
			expect(t, fmt.Sprint("ok behind ", r), impl.CoordOk(r.end()), impl.CoordOk(a))
		}
	}
	for _, a := range badCoords() {
		for _, b := range all {
			for _, took := range []int{0, 1, coordMaxTrip, coordMaxTrip + 1} {
				expect(t, fmt.Sprint("behind ", a, b), impl.CoordMove(a, b, took, 0), impl.Coord{})
			}
		}
	}
}

func TestPromise8WhatCannotBe(t *testing.T) {
	for _, a := range edgeCoords() {
		for _, bad := range badCoords() {
			for _, took := range goodTrips {
				expect(t, fmt.Sprint("by way of ", bad), impl.CoordMove(a, bad, took, took), a)
			}
		}
		for _, took := range badTrips {
			expect(t, fmt.Sprint("by a trip of ", took), impl.CoordMove(a, at(1, 2, 3, 4), took, 1), a)
			expect(t, fmt.Sprint("by a trip to itself of ", took), impl.CoordMove(a, a, took, 1), a)
		}
	}
}

func TestPromise9NotMoreWrongThanBefore(t *testing.T) {
	for _, r := range okTrips() {
		was := abs(impl.CoordDist(r.a, r.b) - r.took)
		is := abs(impl.CoordDist(r.end(), r.b) - r.took)
		if is > was+2 {
			t.Errorf("%v: was wrong by %d, is by %d", r, was, is)
		}
	}
}

func TestPromise10AsFarThereAsBack(t *testing.T) {
	thirds := []impl.Coord{at(0, 0, 0, 1), at(30, -1, 0, 1), at(coordMax, coordMax, 0, 1), at(-coordMax, 7, 3, 1)}
	for _, r := range okTrips() {
		got := impl.CoordDist(r.a, r.b)
		expect(t, fmt.Sprint("back from ", r.a, r.b), impl.CoordDist(r.b, r.a), got)
		if got < r.a.H+r.b.H {
			t.Errorf("%v and %v are too near: %d", r.a, r.b, got)
		}
		for _, third := range thirds {
			if got > impl.CoordDist(r.a, third)+impl.CoordDist(third, r.b)+2 {
				t.Errorf("%v and %v are nearer by way of %v", r.a, r.b, third)
			}
		}
	}
}

func TestPromise11TurnsCountAtOnePlaceAlone(t *testing.T) {
	for _, r := range okTrips() {
		if r.a.X == r.b.X && r.a.Y == r.b.Y {
			continue
		}
		for turn := -2; turn < 4; turn++ {
			expect(t, fmt.Sprint("by another turn ", r), impl.CoordMove(r.a, r.b, r.took, turn), r.end())
		}
	}
	a, b := at(0, 0, 0, 1000), at(1, 0, 0, 1000)
	for _, turn := range someTurns {
		expect(t, "beside each other", impl.CoordMove(a, b, 801, turn), at(-100, 0, 25, 1000))
	}
}

// eachList hands on all lists of up to six trips of four lengths.
func eachList(do func(list []int)) {
	for size := range 7 {
		for code := range 1 << (2 * size) {
			var list []int
			for i := range size {
				list = append(list, 10*(code>>(2*i)&3)+1)
			}
			do(list)
		}
	}
}

func TestPromise12OneWrongTripDoesNotCount(t *testing.T) {
	eachList(func(list []int) {
		if len(list) < impl.CoordKeep {
			return
		}
		last := list[len(list)-impl.CoordKeep:]
		got := impl.CoordMedian(list)
		notBelow, notAbove := 0, 0
		for _, n := range last {
			if n >= got {
				notBelow++
			}
			if n <= got {
				notAbove++
			}
		}
		if !slices.Contains(last, got) || notBelow < 2 || notAbove < 2 {
			t.Errorf("middle of %v: %d", list, got)
		}
	})
}

func TestCoordMedianOfFew(t *testing.T) {
	eachList(func(list []int) {
		if len(list) == 1 || len(list) == 2 {
			expect(t, fmt.Sprint("middle of ", list), impl.CoordMedian(list), slices.Min(list))
		}
	})
}

func TestCoordMedianWritesNothing(t *testing.T) {
	whole := []int{50, 40, 30, 20, 10, 60, 5, 4}
	for from := range whole {
		for to := from; to <= len(whole); to++ {
			held := slices.Clone(whole)
			impl.CoordMedian(held[from:to])
			if !slices.Equal(held, whole) {
				t.Errorf("%d to %d: %v became %v", from, to, whole, held)
			}
		}
	}
}

func TestPromise66JustWhatItShould(t *testing.T) {
	tried := 0
	for _, r := range okTrips() {
		took := impl.CoordDist(r.a, r.b)
		if took < 1 || took > coordMaxTrip {
			continue
		}
		tried++
		got := impl.CoordMove(r.a, r.b, took, r.turn)
		expect(t, fmt.Sprint("place behind ", r), at(got.X, got.Y, got.H, 0), at(r.a.X, r.a.Y, r.a.H, 0))
		if got.E > r.a.E {
			t.Errorf("%v: the error grew to %d", r, got.E)
		}
	}
	if tried < 10000 {
		t.Errorf("only %d trips took just what they should", tried)
	}
}

// TestCoordAnswersStay asks again at once: an answer hangs on nothing that was kept.
func TestCoordAnswersStay(t *testing.T) {
	for _, r := range okTrips()[:2000] {
		first := r.end()
		impl.CoordMove(r.b, r.a, 1, 3)
		expect(t, fmt.Sprint("again ", r), r.end(), first)
	}
}
