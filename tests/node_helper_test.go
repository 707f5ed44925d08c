package tests

import (
	"fmt"
	"math"
	"slices"

	"loop.example/lightship/impl"
)

const (
	askTicks   = 2
	probeTicks = 4
	doubtTicks = 6
	doubtLeast = 3
	castMost   = 3
	gateCount  = 2
	coordKeep  = 3
	nodeMaxNow = 999999
)

const (
	isAlive   = 1
	isSuspect = 2
	isDead    = 3
	hasLeft   = 4
)

const (
	lan = 1
	wan = 2
)

const (
	pingKind = 1
	ackKind  = 2
	askKind  = 3
	syncKind = 4
	backKind = 5
)

// someDraws have each of the last two bits, below 0 and as great as an int can be among them.
var someDraws = []int{
	0, 1, 2, 3, 4, 5, 6, 7, 16, 17, 18, 19, 33, 34, 49, 65, 81, 97, 113, 4098, 8194, -1, -2, -3, -4, -7, -8, -15, -31,
	math.MaxInt, math.MaxInt - 1, math.MaxInt - 2, math.MaxInt - 3, math.MinInt, math.MinInt + 1, math.MinInt + 2, math.MinInt + 3,
}

func drawDraw(d *draws) int {
	if d.between(0, 3) == 0 {
		return d.oneOf(someDraws)
	}
	return int(d.next())
}

// same takes the empty list and the nil list for one.
func same(a any, b any) bool {
	return fmt.Sprint(a) == fmt.Sprint(b)
}

func table(text string) []impl.Fact {
	t, ok := impl.TableParse(text)
	if !ok {
		panic("no table: " + text)
	}
	return t
}

func isNothing(n impl.Node, words []impl.Word) bool {
	return same(n, impl.Node{}) && len(words) == 0
}

func down(me int, gate bool) impl.Node {
	return impl.Node{Me: me, Gate: gate}
}

// plainNode is ok, has something of everything, and stays ok when one of its parts becomes another one that is ok.
func plainNode() impl.Node {
	return impl.Node{
		Me: 1, Up: true, Gate: true, Inc: 5, Now: 100, Seq: 20, Turn: 3,
		Table:  table("0:3:alive*,1:5:alive*,2:6:suspect*,3:7:dead"),
		Cast:   []impl.Item{item(gate(0, 3, isAlive), 2), item(gate(2, 6, isAlive), 4)},
		Probe:  impl.Probe{Node: 0, Since: 99, Seq: 20},
		Doubts: []impl.Doubt{{Node: 2, Inc: 6, Since: 98, By: []int{0, 1}}},
		Coord:  at(30, -40, 5, 700),
		Places: []impl.Place{
			{Node: 0, Coord: at(0, 0, 1, 1500), Trips: []int{1500, 500}},
			{Node: 3, Coord: at(30, -40, 0, 20), Trips: []int{500, 1500, 2500}},
		},
		Others: []impl.Foreign{{Site: 1, Facts: table("4:0:alive*,5:1:alive*,6:2:alive*,7:1:left")}},
	}
}

// meets is a new node that has heard of others of its site.
func meets(me int, text string) impl.Node {
	n := impl.NodeNew(me, true)
	for _, f := range table(text) {
		n.Table = joinByRank(n.Table, []impl.Fact{f})
		if f.Is == isSuspect {
			n.Doubts = append(n.Doubts, impl.Doubt{Node: f.Node, Inc: f.Inc, By: []int{me}})
		}
	}
	return n
}

func told(kind int, from int, to int, text string) impl.Word {
	return impl.Word{Pool: lan, Kind: kind, From: from, To: to, About: from, Coord: impl.CoordNew(), Facts: table(text)}
}

func summary(pool int, from int, to int, text string) impl.Word {
	w := told(sumKind, from, to, text)
	w.Pool = pool
	return w
}

func factOf(t []impl.Fact, node int) impl.Fact {
	for _, f := range t {
		if f.Node == node {
			return f
		}
	}
	return impl.Fact{}
}

func standing(n impl.Node, node int) int {
	return factOf(n.Table, node).Is
}

func mayLive(n impl.Node, node int) bool {
	return standing(n, node) == isAlive || standing(n, node) == isSuspect
}

func doubtOf(n impl.Node, node int) (impl.Doubt, bool) {
	for _, d := range n.Doubts {
		if d.Node == node {
			return d, true
		}
	}
	return impl.Doubt{}, false
}

func placeOf(n impl.Node, node int) (impl.Place, bool) {
	for _, p := range n.Places {
		if p.Node == node {
			return p, true
		}
	}
	return impl.Place{}, false
}

// knownOf is what a node knows of a site, its own one or another.
func knownOf(n impl.Node, site int) []impl.Fact {
	if site == n.Me/siteSize {
		return n.Table
	}
	for _, o := range n.Others {
		if o.Site == site {
			return o.Facts
		}
	}
	return nil
}

func siteNodes(node int) []int {
	first := node / siteSize * siteSize
	return []int{first, first + 1, first + 2, first + 3}
}

func mates(node int) []int {
	return slices.DeleteFunc(siteNodes(node), func(n int) bool { return n == node })
}

func withoutNode(t []impl.Fact, node int) []impl.Fact {
	return slices.DeleteFunc(slices.Clone(t), func(f impl.Fact) bool { return f.Node == node })
}

func ofKind(words []impl.Word, kind int) []impl.Word {
	return slices.DeleteFunc(slices.Clone(words), func(w impl.Word) bool { return w.Kind != kind })
}

func isIn(n impl.Node) bool {
	return n.Up && !n.Gone
}

// patience is for how long a doubt by so many must last.
func patience(by int) int {
	return max(doubtTicks+1-by, doubtLeast)
}

func drawSome(d *draws, nodes []int, least int) []int {
	for {
		some := slices.DeleteFunc(slices.Clone(nodes), func(int) bool { return d.between(0, 1) == 0 })
		if len(some) >= least {
			return some
		}
	}
}

func drawSince(d *draws, now int) int {
	return max(now-d.oneOf([]int{0, 1, 2, 3, 4, 5, 6, 7, now, d.between(0, now)}), 0)
}

// drawStand draws more of those who may live than of the others.
func drawStand(d *draws, node int) impl.Fact {
	f := drawFact(d, node)
	if d.between(0, 2) > 0 {
		f.Is = d.between(isAlive, isSuspect)
	}
	return f
}

// older is a fact that another one of its node overrides, or that one itself.
func older(d *draws, f impl.Fact) impl.Fact {
	g := f
	switch d.between(0, 5) {
	case 0:
		g.Gate = false
	case 1:
		g.Is = d.between(isAlive, f.Is)
	case 2:
		if f.Inc > 0 {
			g = drawStand(d, f.Node)
			g.Inc = d.between(0, f.Inc-1)
		}
	}
	if factRank(g) > factRank(f) {
		return f
	}
	return g
}

func drawDoubts(d *draws, n impl.Node) []impl.Doubt {
	var list []impl.Doubt
	for _, f := range n.Table {
		if f.Is == isSuspect {
			list = append(list, impl.Doubt{Node: f.Node, Inc: f.Inc, Since: drawSince(d, n.Now), By: drawSome(d, siteNodes(n.Me), 1)})
		}
	}
	return list
}

func drawProbe(d *draws, n impl.Node) impl.Probe {
	others := withoutNode(n.Table, n.Me)
	if len(others) == 0 || n.Seq == 0 || d.between(0, 3) == 0 {
		return impl.Probe{Node: -1}
	}
	node := others[d.between(0, len(others)-1)].Node
	return impl.Probe{Node: node, Since: drawSince(d, n.Now), Seq: d.oneOf([]int{1, n.Seq, d.between(1, n.Seq)}), Asked: d.between(0, 1) == 1}
}

func drawPlaces(d *draws, me int) []impl.Place {
	var list []impl.Place
	for _, node := range drawSome(d, mates(me), 0) {
		p := impl.Place{Node: node, Coord: drawCoord(d)}
		for range d.between(1, coordKeep) {
			p.Trips = append(p.Trips, d.oneOf([]int{1, 500, 1500, 2500, d.between(1, coordMaxTrip), coordMaxTrip}))
		}
		list = append(list, p)
	}
	return list
}

// drawNode is any node that is ok: now and then one that is down, or Gone.
func drawNode(d *draws) impl.Node {
	return drawNodeAs(d, d.between(0, factMaxNode), d.between(0, 2) > 0)
}

func drawNodeAs(d *draws, me int, gate bool) impl.Node {
	n := impl.Node{Me: me, Gate: gate}
	if d.between(0, 15) == 0 {
		return n
	}
	n.Up, n.Gone = true, d.between(0, 15) == 0
	n.Inc = d.oneOf([]int{0, 0, 1, 2, d.between(0, factMaxInc), factMaxInc - 1, factMaxInc})
	n.Now = d.oneOf([]int{0, 1, 3, 6, 50, d.between(0, nodeMaxNow), nodeMaxNow - 1, nodeMaxNow})
	n.Seq = d.oneOf([]int{0, 1, 2, 50, d.between(0, nodeMaxNow), nodeMaxNow - 1, nodeMaxNow})
	n.Turn = d.between(0, factMaxNode+1)
	own := impl.Fact{Node: n.Me, Inc: n.Inc, Is: isAlive, Gate: n.Gate}
	if n.Gone {
		own.Is = hasLeft
	}
	n.Table = []impl.Fact{own}
	for _, node := range drawSome(d, mates(n.Me), d.between(0, 2)) {
		n.Table = joinByRank(n.Table, []impl.Fact{drawStand(d, node)})
	}
	for _, f := range n.Table {
		if d.between(0, 1) == 0 {
			n.Cast = append(n.Cast, item(older(d, f), d.between(1, castTimes)))
		}
	}
	n.Probe = drawProbe(d, n)
	n.Doubts = drawDoubts(d, n)
	n.Coord = drawCoord(d)
	n.Places = drawPlaces(d, n.Me)
	if d.between(0, 2) > 0 {
		n.Others = []impl.Foreign{{Site: 1 - n.Me/siteSize, Facts: drawSiteTable(d, siteNodes(factMaxNode-n.Me), 1)}}
	}
	return n
}

func drawSiteTable(d *draws, nodes []int, least int) []impl.Fact {
	var t []impl.Fact
	for _, node := range drawSome(d, nodes, least) {
		t = append(t, drawStand(d, node))
	}
	return t
}

// near is a fact that stands close to what is known already, so that each way of overriding, or not, comes often.
func near(d *draws, known impl.Fact, node int) impl.Fact {
	f := drawStand(d, node)
	if known.Is == 0 || d.between(0, 3) == 0 {
		return f
	}
	f.Inc = min(max(known.Inc+d.oneOf([]int{-1, 0, 0, 0, 1, 2}), 0), factMaxInc)
	if d.between(0, 3) == 0 {
		f.Is, f.Inc = known.Is, known.Inc
	}
	return f
}

func nearTable(d *draws, known []impl.Fact, nodes []int, least int) []impl.Fact {
	var t []impl.Fact
	for _, node := range drawSome(d, nodes, least) {
		t = append(t, near(d, factOf(known, node), node))
	}
	return t
}

// drawFor is a word that is mostly such as a node takes, and mostly fits what it has asked.
func drawFor(d *draws, n impl.Node) impl.Word {
	w := impl.Word{Pool: lan, Kind: d.between(pingKind, sumKind), From: d.oneOf(mates(n.Me)), To: n.Me, Coord: drawCoord(d)}
	w.Seq = d.oneOf([]int{0, n.Probe.Seq, n.Probe.Seq, n.Seq, nodeMaxNow, d.between(0, nodeMaxNow)})
	if n.Probe.Node >= 0 && n.Up && d.between(0, 2) > 0 {
		w.From = n.Probe.Node
	}
	w.About = d.oneOf([]int{w.From, w.From, d.oneOf(siteNodes(n.Me)), d.between(0, factMaxNode)})
	if w.Kind != sumKind {
		w.Facts = nearTable(d, n.Table, siteNodes(n.Me), 0)
		return w
	}
	away := siteNodes(factMaxNode - n.Me)
	w.Facts = nearTable(d, knownOf(n, away[0]/siteSize), away, 1)
	if d.between(0, 2) > 0 {
		w.Pool, w.From = wan, d.oneOf(away)
		if d.between(0, 2) == 0 {
			w.Facts = nearTable(d, n.Table, siteNodes(n.Me), 1)
		}
	}
	return w
}

// stir makes a word, now and then, into one that is not for the node.
func stir(d *draws, w impl.Word) impl.Word {
	switch d.between(0, 19) {
	case 0:
		w.Pool = d.between(0, 3)
	case 1:
		w.Kind = d.between(0, 7)
	case 2:
		w.From = d.between(-1, factMaxNode+1)
	case 3:
		w.To = d.between(-1, factMaxNode+1)
	case 4:
		w.Seq = d.oneOf([]int{-1, nodeMaxNow + 1})
	case 5:
		w.Facts = slices.Concat(w.Facts, w.Facts)
	}
	return w
}

// heardBy is a node, and a word that it may take or not.
type heardBy struct {
	Node impl.Node
	Word impl.Word
}

func someHeard(seed uint64, many int) []heardBy {
	d := &draws{seed}
	var list []heardBy
	for range many {
		n := drawNode(d)
		list = append(list, heardBy{n, stir(d, drawFor(d, n))})
	}
	return list
}

func someNodes(seed uint64, many int) []impl.Node {
	d := &draws{seed}
	list := []impl.Node{plainNode(), impl.NodeNew(0, true), impl.NodeNew(factMaxNode, false), down(0, false), down(factMaxNode, true)}
	for range many {
		list = append(list, drawNode(d))
	}
	return list
}
