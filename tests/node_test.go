package tests

import (
	"fmt"
	"math"
	"slices"
	"testing"

	"loop.example/lightship/impl"
)

// change makes a node into another one.
type change struct {
	what string
	make func(n *impl.Node)
}

func changed(n impl.Node, c change) impl.Node {
	n = roomyCopy(n)
	c.make(&n)
	return n
}

func setOwn(n *impl.Node, f impl.Fact) {
	n.Table = joinByRank(withoutNode(n.Table, n.Me), []impl.Fact{f})
}

// fineChanges leave plainNode ok.
func fineChanges() []change {
	list := []change{
		{"nothing", func(n *impl.Node) {}},
		{"Inc 0", func(n *impl.Node) { n.Inc = 0; setOwn(n, gate(1, 0, isAlive)) }},
		{"Inc at its limit", func(n *impl.Node) { n.Inc = factMaxInc; setOwn(n, gate(1, factMaxInc, isAlive)) }},
		{"Now as early as may be", func(n *impl.Node) { n.Now = 99 }},
		{"Now at its limit", func(n *impl.Node) { n.Now = nodeMaxNow }},
		{"Now 0", func(n *impl.Node) { n.Now, n.Probe.Since, n.Doubts[0].Since = 0, 0, 0 }},
		{"Seq at its limit", func(n *impl.Node) { n.Seq = nodeMaxNow }},
		{"Seq 0", func(n *impl.Node) { n.Seq, n.Probe = 0, impl.Probe{Node: -1} }},
		{"Turn 0", func(n *impl.Node) { n.Turn = 0 }},
		{"Turn FactMaxNode", func(n *impl.Node) { n.Turn = factMaxNode }},
		{"Turn one more", func(n *impl.Node) { n.Turn = factMaxNode + 1 }},
		{"Gone", func(n *impl.Node) { n.Gone = true; setOwn(n, gate(1, 5, hasLeft)) }},
		{"no Gate", func(n *impl.Node) { n.Gate = false; setOwn(n, fact(1, 5, isAlive)) }},
		{"nothing in Cast", func(n *impl.Node) { n.Cast = nil }},
		{"Cast of itself", func(n *impl.Node) { n.Cast = []impl.Item{item(gate(1, 5, isAlive), 1)} }},
		{"Cast without a Gate that is known", func(n *impl.Node) { n.Cast = []impl.Item{item(fact(0, 3, isAlive), 4)} }},
		{"Cast by a lesser number", func(n *impl.Node) { n.Cast = []impl.Item{item(gate(3, 6, hasLeft), 4)} }},
		{"no Probe", func(n *impl.Node) { n.Probe = impl.Probe{Node: -1} }},
		{"Probe Asked", func(n *impl.Node) { n.Probe.Asked = true }},
		{"Probe since 0", func(n *impl.Node) { n.Probe.Since = 0 }},
		{"Probe since now", func(n *impl.Node) { n.Probe.Since = 100 }},
		{"Probe's Seq 1", func(n *impl.Node) { n.Probe.Seq = 1 }},
		{"Probe of one suspect", func(n *impl.Node) { n.Probe.Node = 2 }},
		{"Probe of one dead", func(n *impl.Node) { n.Probe.Node = 3 }},
		{"a doubt since 0", func(n *impl.Node) { n.Doubts[0].Since = 0 }},
		{"a doubt since now", func(n *impl.Node) { n.Doubts[0].Since = 100 }},
		{"a doubt by the doubted", func(n *impl.Node) { n.Doubts[0].By = []int{2} }},
		{"a doubt by all", func(n *impl.Node) { n.Doubts[0].By = []int{0, 1, 2, 3} }},
		{"no Places", func(n *impl.Node) { n.Places = nil }},
		{"a place of one unknown", func(n *impl.Node) { n.Table = n.Table[:3] }},
		{"trips at their limits", func(n *impl.Node) { n.Places[1].Trips = []int{coordMaxTrip, 1, coordMaxTrip} }},
		{"one trip", func(n *impl.Node) { n.Places[1].Trips = []int{coordMaxTrip} }},
		{"no Others", func(n *impl.Node) { n.Others = nil }},
		{"one fact of another site", func(n *impl.Node) { n.Others[0].Facts = table("7:999:suspect*") }},
	}
	for _, c := range edgeCoords() {
		list = append(list, change{fmt.Sprint("at ", c), func(n *impl.Node) { n.Coord, n.Places[0].Coord = c, c }})
	}
	return list
}

// spoiltNumbers make plainNode not ok by one number alone.
func spoiltNumbers() []change {
	var list []change
	for _, part := range []struct {
		what   string
		set    func(n *impl.Node, to int)
		values []int
	}{
		{"Me", func(n *impl.Node, to int) { n.Me = to }, []int{-1, 0, 2, 5, factMaxNode + 1}},
		{"Inc", func(n *impl.Node, to int) { n.Inc = to }, []int{-1, 0, 4, 6, factMaxInc, factMaxInc + 1}},
		{"Inc, and what it says", func(n *impl.Node, to int) { n.Inc = to; n.Table[1].Inc = to }, []int{-1, factMaxInc + 1}},
		{"Now", func(n *impl.Node, to int) { n.Now = to }, []int{-1, 0, 98, nodeMaxNow + 1}},
		{"Seq", func(n *impl.Node, to int) { n.Seq = to }, []int{-1, 0, 19, nodeMaxNow + 1}},
		{"Turn", func(n *impl.Node, to int) { n.Turn = to }, []int{-1, factMaxNode + 2}},
		{"Left of an item", func(n *impl.Node, to int) { n.Cast[0].Left = to }, []int{-1, 0, castTimes + 1}},
		{"Probe's Node", func(n *impl.Node, to int) { n.Probe.Node = to }, []int{-2, -1, 1, 4, factMaxNode + 1}},
		{"Probe's Since", func(n *impl.Node, to int) { n.Probe.Since = to }, []int{-1, 101}},
		{"Probe's Seq", func(n *impl.Node, to int) { n.Probe.Seq = to }, []int{-1, 0, 21}},
		{"a doubt's Node", func(n *impl.Node, to int) { n.Doubts[0].Node = to }, []int{-1, 0, 1, 3, 6, factMaxNode + 1}},
		{"a doubt's Inc", func(n *impl.Node, to int) { n.Doubts[0].Inc = to }, []int{-1, 5, 7}},
		{"a doubt's Since", func(n *impl.Node, to int) { n.Doubts[0].Since = to }, []int{-1, 101}},
		{"a doubt's first By", func(n *impl.Node, to int) { n.Doubts[0].By[0] = to }, []int{-1, 1, 2}},
		{"a doubt's last By", func(n *impl.Node, to int) { n.Doubts[0].By[1] = to }, []int{-1, 0, 4, factMaxNode, factMaxNode + 1}},
		{"the first place's Node", func(n *impl.Node, to int) { n.Places[0].Node = to }, []int{-1, 1, 3, 4}},
		{"the last place's Node", func(n *impl.Node, to int) { n.Places[1].Node = to }, []int{-1, 0, 1, 4, factMaxNode + 1}},
		{"a trip", func(n *impl.Node, to int) { n.Places[1].Trips[1] = to }, []int{-1, 0, coordMaxTrip + 1}},
		{"the first trip", func(n *impl.Node, to int) { n.Places[0].Trips[0] = to }, []int{-1, 0, coordMaxTrip + 1}},
		{"another site", func(n *impl.Node, to int) { n.Others[0].Site = to }, []int{-1, 0, 2}},
	} {
		for _, to := range append(part.values, math.MinInt, math.MaxInt) {
			list = append(list, change{fmt.Sprint(part.what, " ", to), func(n *impl.Node) { part.set(n, to) }})
		}
	}
	return list
}

// spoiltLists make plainNode not ok by one list, or one thing, alone.
func spoiltLists() []change {
	list := []change{
		{"not Up", func(n *impl.Node) { n.Up = false }},
		{"Gone without having Left", func(n *impl.Node) { n.Gone = true }},
		{"another Gate than it says", func(n *impl.Node) { n.Gate = false }},
		{"Gate that it does not say", func(n *impl.Node) { n.Table[1].Gate = false }},
		{"no Table", func(n *impl.Node) { n.Table, n.Cast, n.Doubts, n.Probe = nil, nil, nil, impl.Probe{Node: -1} }},
		{"a Table without itself", func(n *impl.Node) { n.Table = withoutNode(n.Table, 1) }},
		{"itself Suspect", func(n *impl.Node) {
			n.Table[1].Is = isSuspect
			n.Doubts = []impl.Doubt{{Node: 1, Inc: 5, Since: 98, By: []int{0}}, n.Doubts[0]}
		}},
		{"itself Dead", func(n *impl.Node) { n.Table[1].Is = isDead }},
		{"itself Left, and not Gone", func(n *impl.Node) { n.Table[1].Is = hasLeft }},
		{"a Table with another site", func(n *impl.Node) { n.Table = append(n.Table, fact(4, 0, isAlive)) }},
		{"a Table out of order", func(n *impl.Node) { n.Table[2], n.Table[3] = n.Table[3], n.Table[2] }},
		{"a Table with one twice", func(n *impl.Node) { n.Table = append(n.Table, n.Table[3]) }},
		{"a Table with no fact", func(n *impl.Node) { n.Table[3].Is = 0 }},
		{"Cast out of order", func(n *impl.Node) { n.Cast[0], n.Cast[1] = n.Cast[1], n.Cast[0] }},
		{"Cast with one twice", func(n *impl.Node) { n.Cast[1] = n.Cast[0] }},
		{"Cast with no fact", func(n *impl.Node) { n.Cast[0].Fact.Is = 0 }},
		{"Cast of another site", func(n *impl.Node) { n.Cast = append(n.Cast, item(fact(4, 0, isAlive), 1)) }},
		{"Cast of one unknown", func(n *impl.Node) { n.Table = n.Table[:3]; n.Cast[1].Fact.Node = 3 }},
		{"Cast by a greater number", func(n *impl.Node) { n.Cast[0].Fact.Inc++ }},
		{"Cast as more than is known", func(n *impl.Node) { n.Cast[0].Fact.Is = isSuspect }},
		{"Cast with a Gate that is not known", func(n *impl.Node) { n.Cast[1] = item(gate(3, 7, isDead), 1) }},
		{"Probe nothing", func(n *impl.Node) { n.Probe = impl.Probe{} }},
		{"no Probe, but Since", func(n *impl.Node) { n.Probe = impl.Probe{Node: -1, Since: 1} }},
		{"no Probe, but Seq", func(n *impl.Node) { n.Probe = impl.Probe{Node: -1, Seq: 1} }},
		{"no Probe, but Asked", func(n *impl.Node) { n.Probe = impl.Probe{Node: -1, Asked: true} }},
		{"Probe of one unknown", func(n *impl.Node) { n.Table = n.Table[:3]; n.Probe.Node = 3 }},
		{"no doubt", func(n *impl.Node) { n.Doubts = nil }},
		{"a doubt twice", func(n *impl.Node) { n.Doubts = append(n.Doubts, n.Doubts[0]) }},
		{"a doubt of one alive", func(n *impl.Node) {
			n.Doubts = append([]impl.Doubt{{Node: 0, Inc: 3, Since: 98, By: []int{0}}}, n.Doubts...)
		}},
		{"a doubt too few", func(n *impl.Node) { n.Table[3].Is = isSuspect }},
		{"one doubt twice, another one none", func(n *impl.Node) { n.Table[3].Is = isSuspect; n.Doubts = append(n.Doubts, n.Doubts[0]) }},
		{"doubts out of order", func(n *impl.Node) {
			n.Table[3].Is = isSuspect
			n.Doubts = append([]impl.Doubt{{Node: 3, Inc: 7, Since: 98, By: []int{0}}}, n.Doubts...)
		}},
		{"a doubt by nobody", func(n *impl.Node) { n.Doubts[0].By = nil }},
		{"a doubt by others out of order", func(n *impl.Node) { n.Doubts[0].By = []int{1, 0} }},
		{"a place without trips", func(n *impl.Node) { n.Places[0].Trips = nil }},
		{"a place with a trip too many", func(n *impl.Node) { n.Places[1].Trips = []int{1, 2, 3, 4} }},
		{"Places out of order", func(n *impl.Node) { n.Places[0], n.Places[1] = n.Places[1], n.Places[0] }},
		{"another site of which nothing is known", func(n *impl.Node) { n.Others[0].Facts = nil }},
		{"another site told as its own", func(n *impl.Node) { n.Others[0].Facts = n.Table }},
		{"another site with one of its own", func(n *impl.Node) { n.Others[0].Facts = table("0:3:alive*,4:0:alive*") }},
		{"another site twice", func(n *impl.Node) { n.Others = append(n.Others, n.Others[0]) }},
		{"its own site among Others", func(n *impl.Node) { n.Others[0] = impl.Foreign{Site: 0, Facts: n.Table} }},
	}
	for _, c := range append(badCoords(), impl.Coord{}) {
		list = append(list,
			change{fmt.Sprint("at ", c), func(n *impl.Node) { n.Coord = c }},
			change{fmt.Sprint("a place at ", c), func(n *impl.Node) { n.Places[1].Coord = c }})
	}
	for _, bad := range badTables() {
		list = append(list, change{fmt.Sprint("another site with ", bad), func(n *impl.Node) { n.Others[0].Facts = bad }})
	}
	return list
}

// spoiltDowns make a node that is down not ok, as it has something left.
func spoiltDowns() []change {
	p := plainNode()
	return []change{
		{"Me below", func(n *impl.Node) { n.Me = -1 }},
		{"Me beyond", func(n *impl.Node) { n.Me = factMaxNode + 1 }},
		{"Gone", func(n *impl.Node) { n.Gone = true }},
		{"Inc", func(n *impl.Node) { n.Inc = 1 }},
		{"Now", func(n *impl.Node) { n.Now = 1 }},
		{"Seq", func(n *impl.Node) { n.Seq = 1 }},
		{"Turn", func(n *impl.Node) { n.Turn = 1 }},
		{"Table", func(n *impl.Node) { n.Table = table("1:0:alive*") }},
		{"Cast", func(n *impl.Node) { n.Cast = p.Cast }},
		{"no Probe", func(n *impl.Node) { n.Probe.Node = -1 }},
		{"Probe", func(n *impl.Node) { n.Probe.Node = 2 }},
		{"Probe's Since", func(n *impl.Node) { n.Probe.Since = 1 }},
		{"Probe's Seq", func(n *impl.Node) { n.Probe.Seq = 1 }},
		{"Asked", func(n *impl.Node) { n.Probe.Asked = true }},
		{"Doubts", func(n *impl.Node) { n.Doubts = p.Doubts }},
		{"X", func(n *impl.Node) { n.Coord.X = 1 }},
		{"a place as at first", func(n *impl.Node) { n.Coord = impl.CoordNew() }},
		{"Places", func(n *impl.Node) { n.Places = p.Places }},
		{"Others", func(n *impl.Node) { n.Others = p.Others }},
	}
}

// badNodes are not ok, each by one part alone.
func badNodes() map[string]impl.Node {
	list := map[string]impl.Node{}
	for _, c := range append(spoiltNumbers(), spoiltLists()...) {
		list[c.what] = changed(plainNode(), c)
	}
	for _, c := range spoiltDowns() {
		list["down, but "+c.what] = changed(down(1, true), c)
	}
	return list
}

func TestNodeLimits(t *testing.T) {
	expectList(t, "limits",
		[]int{impl.AskTicks, impl.ProbeTicks, impl.DoubtTicks, impl.DoubtLeast, impl.CastMost, impl.GateCount, impl.NodeMaxNow},
		[]int{2, 4, 6, 3, 3, 2, 999999})
}

func TestNewNodesByHand(t *testing.T) {
	for me := 0; me <= factMaxNode; me++ {
		for _, gate := range []bool{false, true} {
			n := impl.NodeNew(me, gate)
			want := impl.Node{
				Me: me, Up: true, Gate: gate, Table: []impl.Fact{{Node: me, Is: isAlive, Gate: gate}},
				Probe: impl.Probe{Node: -1}, Coord: at(0, 0, 0, coordMaxErr),
			}
			expect(t, "new", fmt.Sprint(n), fmt.Sprint(want))
			expect(t, "a new one is ok", impl.NodeOk(n), true)
			expect(t, "one that is down is ok", impl.NodeOk(down(me, gate)), true)
		}
	}
	for _, me := range []int{math.MinInt, -1, factMaxNode + 1, math.MaxInt} {
		expect(t, fmt.Sprint(me, " is nobody"), same(impl.NodeNew(me, true), impl.Node{}), true)
	}
}

func TestNodesAreOkWithinTheirBounds(t *testing.T) {
	for _, c := range fineChanges() {
		expect(t, c.what, impl.NodeOk(changed(plainNode(), c)), true)
	}
	for _, n := range someNodes(2110, 20000) {
		if !impl.NodeOk(n) {
			t.Fatalf("not ok: %v", n)
		}
	}
}

func TestNodesThatAreNotOk(t *testing.T) {
	for what, n := range badNodes() {
		expect(t, what, impl.NodeOk(n), false)
	}
}

func TestNodesThatAreNotOkAnswerNothing(t *testing.T) {
	for what, n := range badNodes() {
		for _, draw := range []int{0, 1, 2, 3} {
			expect(t, "tick: "+what, isNothing(impl.NodeTick(n, draw)), true)
		}
		expect(t, "join: "+what, isNothing(impl.NodeJoin(n, 0)), true)
		expect(t, "leave: "+what, isNothing(impl.NodeLeave(n)), true)
		expect(t, "view: "+what, len(impl.NodeView(n)), 0)
		expect(t, "near: "+what, len(impl.NodeNear(n, 9)), 0)
		for _, w := range []impl.Word{told(syncKind, 0, 1, "0:4:alive"), told(pingKind, 2, 1, "-"), summary(wan, 4, 1, "4:0:alive")} {
			expect(t, "takes: "+what, impl.NodeTakes(n, w), false)
			expect(t, "hear: "+what, isNothing(impl.NodeHear(n, w)), true)
		}
		for node := -1; node <= factMaxNode+1; node++ {
			trip, known := impl.NodeTrip(n, node)
			expect(t, "trip: "+what, trip == 0 && !known, true)
			sure, doubted := impl.NodeSure(n, node)
			expect(t, "sure: "+what, sure == 0 && !doubted, true)
			expect(t, "gates: "+what, len(impl.NodeGates(n, node)), 0)
		}
	}
}

func TestWhoIsDownGoneOrAtTheEndOfTimeStays(t *testing.T) {
	gone, _ := impl.NodeLeave(plainNode())
	last := plainNode()
	last.Now = nodeMaxNow
	for _, n := range []impl.Node{down(3, true), down(0, false), gone, last} {
		for _, draw := range someDraws {
			after, words := impl.NodeTick(n, draw)
			expect(t, fmt.Sprint("tick of ", n), same(after, n) && len(words) == 0, true)
		}
		if isIn(n) {
			continue
		}
		after, words := impl.NodeLeave(n)
		expect(t, fmt.Sprint("leave of ", n), same(after, n) && len(words) == 0, true)
		after, words = impl.NodeJoin(n, n.Me^1)
		expect(t, fmt.Sprint("join of ", n), same(after, n) && len(words) == 0, true)
	}
	// One tick before the end all is as ever, and at the end one can still join and leave.
	early := last
	early.Now--
	after, words := impl.NodeTick(early, 0)
	expect(t, "the last tick", after.Now == nodeMaxNow && len(words) > 0, true)
	_, words = impl.NodeJoin(last, 0)
	expect(t, "joins at the end", len(words), 1)
	after, words = impl.NodeLeave(last)
	expect(t, "leaves at the end", after.Gone && len(words) == 2, true)
}

func TestDoubtsLastJustAsLongAsTheyMust(t *testing.T) {
	for _, c := range []struct {
		by     []int
		lasts  int
		before int
	}{
		{[]int{1}, 6, 0}, {[]int{2}, 6, 40}, {[]int{0, 3}, 5, 0}, {[]int{1, 2, 3}, 4, 7}, {[]int{0, 1, 2, 3}, 3, nodeMaxNow - 9},
	} {
		for _, f := range []impl.Fact{fact(2, 0, isSuspect), gate(2, factMaxInc, isSuspect)} {
			n := impl.NodeNew(1, true)
			n.Table = append(n.Table, f)
			n.Now = c.before
			n.Doubts = []impl.Doubt{{Node: 2, Inc: f.Inc, Since: c.before, By: c.by}}
			n.Probe, n.Seq = impl.Probe{Node: 2, Since: c.before, Seq: 1}, 1
			for ago := 0; ago < c.lasts; ago++ {
				what := fmt.Sprint(f, " by ", c.by, " for ", ago)
				sure, doubted := impl.NodeSure(n, 2)
				expect(t, what+": sure", sure == c.lasts-ago && doubted, true)
				expect(t, what+": stands", standing(n, 2), isSuspect)
				n, _ = impl.NodeTick(n, 3)
			}
			f.Is = isDead
			what := fmt.Sprint(f, " by ", c.by)
			expect(t, what, factOf(n.Table, 2), f)
			expectList(t, what, n.Cast, []impl.Item{item(f, castTimes)})
			expect(t, what+": doubts", len(n.Doubts), 0)
			_, doubted := impl.NodeSure(n, 2)
			expect(t, what+": doubted", doubted, false)
		}
	}
}

// Several doubts end at one tick, and one of them stays.
func TestDoubtsEndEachForItself(t *testing.T) {
	n := meets(0, "1:2:suspect,2:0:suspect*,3:9:suspect*")
	n.Now = 50
	n.Doubts[0].Since, n.Doubts[0].By = 46, []int{0, 1}
	n.Doubts[1].Since, n.Doubts[1].By = 46, []int{0}
	n.Doubts[2].Since, n.Doubts[2].By = 45, []int{3}
	after, words := impl.NodeTick(n, 3)
	expect(t, "stand", impl.TableText(after.Table), "0:0:alive*,1:2:dead,2:0:suspect*,3:9:dead*")
	expect(t, "doubts", fmt.Sprint(after.Doubts), "[{2 0 46 [0]}]")
	expect(t, "who is asked is told that it is suspect", impl.TableText(words[0].Facts), "1:2:dead,2:0:suspect*,3:9:dead*")
	expect(t, "who is asked", words[0].To, 2)
}

func TestProbesByHand(t *testing.T) {
	for _, c := range []struct {
		lasted int
		asked  bool
		stands string
		probe  impl.Probe
		is     int
		words  string
	}{
		{1, false, "1:4:alive", impl.Probe{Node: 1, Since: 90, Seq: 8}, isAlive, ""},
		{2, false, "1:4:alive", impl.Probe{Node: 1, Since: 90, Seq: 8, Asked: true}, isAlive, "ask 2 8 1;ask 3 8 1;"},
		{2, true, "1:4:alive", impl.Probe{Node: 1, Since: 90, Seq: 8, Asked: true}, isAlive, ""},
		{3, false, "1:4:alive", impl.Probe{Node: 1, Since: 90, Seq: 8, Asked: true}, isAlive, "ask 2 8 1;ask 3 8 1;"},
		{3, true, "1:4:alive", impl.Probe{Node: 1, Since: 90, Seq: 8, Asked: true}, isAlive, ""},
		{4, false, "1:4:alive", impl.Probe{Node: 2, Since: 94, Seq: 10}, isSuspect, "ping 2 10 0;"},
		{4, true, "1:4:alive", impl.Probe{Node: 2, Since: 94, Seq: 10}, isSuspect, "ping 2 10 0;"},
		{9, true, "1:4:alive", impl.Probe{Node: 2, Since: 99, Seq: 10}, isSuspect, "ping 2 10 0;"},
		{2, false, "1:4:suspect", impl.Probe{Node: 1, Since: 90, Seq: 8, Asked: true}, isSuspect, "ask 2 8 1;ask 3 8 1;"},
		{4, true, "1:4:suspect", impl.Probe{Node: 2, Since: 94, Seq: 10}, isSuspect, "ping 2 10 0;"},
		{1, false, "1:4:dead", impl.Probe{Node: 2, Since: 91, Seq: 10}, isDead, "ping 2 10 0;"},
		{1, false, "1:4:left", impl.Probe{Node: 2, Since: 91, Seq: 10}, hasLeft, "ping 2 10 0;"},
		{4, true, "1:4:dead", impl.Probe{Node: 2, Since: 94, Seq: 10}, isDead, "ping 2 10 0;"},
	} {
		what := fmt.Sprint(c)
		n := meets(0, c.stands+",2:0:alive*,3:1:alive")
		n.Now, n.Seq, n.Turn = 89+c.lasted, 9, 2
		n.Probe = impl.Probe{Node: 1, Since: 90, Seq: 8, Asked: c.asked}
		for i := range n.Doubts {
			n.Doubts[i].Since = n.Now
		}
		after, words := impl.NodeTick(n, 3)
		expect(t, what+": probe", after.Probe, c.probe)
		expect(t, what+": stands", standing(after, 1), c.is)
		sent := ""
		for _, w := range words {
			sent += fmt.Sprint(kindTexts[w.Kind], " ", w.To, " ", w.Seq, " ", w.About, ";")
			expect(t, what+": from", w.From == 0 && w.Pool == lan && w.Coord == n.Coord, true)
		}
		expect(t, what+": sent", sent, c.words)
	}
}

// Who is suspected by a probe is so by the node itself, from now on, and that is told.
func TestWhoDoesNotAnswerIsSuspected(t *testing.T) {
	n := meets(2, "0:3:alive*,3:0:alive")
	n.Now, n.Seq, n.Turn = 50, 7, 4
	n.Probe = impl.Probe{Node: 3, Since: 47, Seq: 7, Asked: true}
	after, words := impl.NodeTick(n, 3)
	expect(t, "doubts", fmt.Sprint(after.Doubts), "[{3 0 51 [2]}]")
	expect(t, "table", impl.TableText(after.Table), "0:3:alive*,2:0:alive*,3:0:suspect")
	expectList(t, "told on", after.Cast, []impl.Item{item(fact(3, 0, isSuspect), castTimes-1)})
	expect(t, "words", fmt.Sprint(words), fmt.Sprint([]impl.Word{{
		Pool: lan, Kind: pingKind, From: 2, To: 0, Seq: 8, About: 2, Coord: impl.CoordNew(), Facts: table("3:0:suspect"),
	}}))
	sure, doubted := impl.NodeSure(after, 3)
	expect(t, "for the whole time", sure == doubtTicks && doubted, true)
}

// Those who are asked to ask are the first two that are Alive, and neither the node nor the one that was asked.
func TestWhoIsAskedToAsk(t *testing.T) {
	for _, c := range []struct {
		me     int
		table  string
		probed int
		want   []int
	}{
		{0, "1:0:alive,2:0:alive,3:0:alive", 1, []int{2, 3}},
		{0, "1:0:alive,2:0:alive,3:0:alive", 3, []int{1, 2}},
		{3, "0:0:alive,1:0:alive,2:0:alive", 1, []int{0, 2}},
		{0, "1:0:alive,2:0:suspect,3:0:alive", 1, []int{3}},
		{0, "1:0:alive,2:0:dead,3:0:left", 1, nil},
		{5, "4:0:suspect,6:0:alive", 4, []int{6}},
		{5, "4:0:alive", 4, nil},
	} {
		n := meets(c.me, c.table)
		n.Now, n.Seq = 2, 1
		n.Probe = impl.Probe{Node: c.probed, Since: 1, Seq: 1}
		after, words := impl.NodeTick(n, 3)
		var to []int
		for _, w := range words {
			expect(t, fmt.Sprint(w), w.Kind == askKind && w.About == c.probed && w.Seq == 1 && len(w.Facts) == 0, true)
			to = append(to, w.To)
		}
		expectList(t, fmt.Sprint(c), to, c.want)
		expect(t, fmt.Sprint(c), after.Probe.Asked, true)
	}
}

func TestWhoseTurnItIs(t *testing.T) {
	for _, c := range []struct {
		me    int
		table string
		turn  int
		want  int // -1: nobody's
	}{
		{0, "1:0:alive,2:0:alive,3:0:alive", 0, 1},
		{0, "1:0:alive,2:0:alive,3:0:alive", 1, 1},
		{0, "1:0:alive,2:0:alive,3:0:alive", 2, 2},
		{0, "1:0:alive,2:0:alive,3:0:alive", 4, 1},
		{0, "1:0:alive,2:0:alive,3:0:alive", factMaxNode, 1},
		{0, "1:0:alive,2:0:alive,3:0:alive", factMaxNode + 1, 1},
		{1, "0:0:alive,2:0:alive", 1, 2},
		{1, "0:0:alive,2:0:alive", 3, 0},
		{1, "0:0:alive,2:0:alive", factMaxNode + 1, 0},
		{1, "0:0:dead,2:0:left,3:0:suspect", 0, 3},
		{1, "0:0:dead,2:0:left", 0, -1},
		{1, "-", 0, -1},
		{7, "4:0:alive,6:0:alive", 7, 4},
		{7, "4:0:alive,6:0:alive", factMaxNode + 1, 4},
		{7, "4:0:alive,6:0:alive", 5, 6},
		{6, "7:0:suspect", factMaxNode, 7},
		{6, "7:0:suspect", factMaxNode + 1, 7},
		{6, "7:0:suspect", 0, 7},
	} {
		what := fmt.Sprint(c)
		n := meets(c.me, c.table)
		n.Turn, n.Seq = c.turn, 3
		after, words := impl.NodeTick(n, 3)
		if c.want < 0 {
			n.Now = 1
			expect(t, what, same(after, n) && len(words) == 0, true)
			continue
		}
		expect(t, what, after.Probe, impl.Probe{Node: c.want, Since: 1, Seq: 4})
		expect(t, what, after.Seq == 4 && after.Turn == c.want+1, true)
		expect(t, what, len(words) == 1 && words[0].Kind == pingKind && words[0].To == c.want && words[0].Seq == 4 && words[0].About == c.me, true)
	}
}

func TestProbesHaveNumbersUpToTheLimit(t *testing.T) {
	n := meets(0, "1:0:alive")
	n.Seq = nodeMaxNow - 1
	after, words := impl.NodeTick(n, 3)
	expect(t, "the last number", after.Seq == nodeMaxNow && after.Probe.Seq == nodeMaxNow && words[0].Seq == nodeMaxNow, true)
	after.Probe = impl.Probe{Node: -1}
	again, words := impl.NodeTick(after, 0)
	after.Now++
	expect(t, "none behind it", same(again, after), true)
	expect(t, "but it still syncs", len(words) == 1 && words[0].Kind == syncKind, true)
}

// By the way a node hears of its own suspicion, instead of anything older, beside what is told on.
func TestWhatIsToldByTheWay(t *testing.T) {
	n := meets(0, "1:1:suspect*,2:2:alive,3:3:alive*")
	n.Turn = 1
	for _, c := range []struct {
		cast []impl.Item
		to   int
		want string
		left string
	}{
		{nil, 1, "1:1:suspect*", "[]"},
		{nil, 2, "-", "[]"},
		{[]impl.Item{item(gate(1, 1, isSuspect), 1)}, 1, "1:1:suspect*", "[]"},
		{[]impl.Item{item(gate(1, 1, isAlive), 2)}, 1, "1:1:suspect*", "[{{1 1 1 true} 1}]"},
		{[]impl.Item{item(gate(1, 0, hasLeft), 2)}, 1, "1:1:suspect*", "[{{1 0 4 true} 1}]"},
		{[]impl.Item{item(gate(1, 1, isAlive), 2)}, 3, "1:1:alive*", "[{{1 1 1 true} 1}]"},
		{[]impl.Item{item(gate(0, 0, isAlive), 4), item(fact(2, 2, isAlive), 4), item(gate(3, 3, isAlive), 4)}, 1,
			"0:0:alive*,1:1:suspect*,2:2:alive,3:3:alive*", "[{{0 0 1 true} 3} {{2 2 1 false} 3} {{3 3 1 true} 3}]"},
		{[]impl.Item{item(gate(0, 0, isAlive), 4), item(gate(1, 1, isAlive), 3), item(fact(2, 2, isAlive), 4), item(gate(3, 3, isAlive), 4)}, 1,
			"0:0:alive*,1:1:suspect*,2:2:alive,3:3:alive*", "[{{0 0 1 true} 3} {{1 1 1 true} 3} {{2 2 1 false} 3} {{3 3 1 true} 3}]"},
		{[]impl.Item{item(gate(0, 0, isAlive), 1), item(gate(1, 1, isSuspect), 2), item(fact(2, 2, isAlive), 1), item(gate(3, 3, isAlive), 1)}, 2,
			"0:0:alive*,1:1:suspect*,2:2:alive", "[{{1 1 2 true} 1} {{3 3 1 true} 1}]"},
	} {
		n.Cast, n.Turn = c.cast, c.to
		after, words := impl.NodeTick(n, 3)
		expect(t, fmt.Sprint(c), words[0].To, c.to)
		expect(t, fmt.Sprint(c), impl.TableText(words[0].Facts), c.want)
		expect(t, fmt.Sprint(c), fmt.Sprint(after.Cast), c.left)
	}
}

func TestDrawsByHand(t *testing.T) {
	n := meets(1, "0:3:dead,2:0:alive*,3:7:left")
	n.Probe, n.Seq = impl.Probe{Node: 2, Seq: 1}, 1
	knows := n
	knows.Others = []impl.Foreign{{Site: 1, Facts: table("4:0:suspect*,5:1:alive*,6:2:alive,7:3:alive*")}}
	hidden := n
	hidden.Gate, hidden.Table = false, table("0:3:dead,1:0:alive,2:0:alive*,3:7:left")
	third := meets(2, "0:0:alive*,1:0:alive*")
	third.Probe, third.Seq = impl.Probe{Node: 1, Seq: 1}, 1
	loner := knows
	loner.Table, loner.Probe = table("1:0:alive*,3:7:left"), impl.Probe{Node: -1}
	full := "0:3:dead,1:0:alive*,2:0:alive*,3:7:left"
	for _, c := range []struct {
		n    impl.Node
		draw int
		want string
	}{
		{n, 0, "lan sync 0 " + full}, {n, 4, "lan sync 2 " + full}, {n, 8, "lan sync 0 " + full}, {n, 1020, "lan sync 2 " + full},
		{n, 1024, "lan sync 0 " + full}, {n, 1028, "lan sync 2 " + full}, {n, -4, "lan sync 2 " + full}, {n, -8, "lan sync 0 " + full},
		{n, math.MinInt, "lan sync 0 " + full}, {n, math.MaxInt - 3, "lan sync 2 " + full}, {loner, 0, ""},
		{n, 1, "wan sum 4 " + full}, {n, 1 + 32, "wan sum 5 " + full}, {n, 1 + 64, "wan sum 6 " + full}, {n, 1 + 96, "wan sum 7 " + full},
		{n, 1 + 128, "wan sum 4 " + full}, {n, -3, "wan sum 7 " + full}, {n, math.MinInt + 1, "wan sum 4 " + full}, {n, math.MaxInt - 2, "wan sum 7 " + full},
		{knows, 1, "wan sum 5 " + full}, {knows, 1 + 32, "wan sum 7 " + full}, {knows, 1 + 64, "wan sum 5 " + full}, {knows, 1 + 96, "wan sum 7 " + full},
		{knows, 1 + 16, "wan sum 4 " + full}, {knows, 1 + 16 + 32, "wan sum 5 " + full}, {knows, 1 + 16 + 64, "wan sum 6 " + full}, {knows, -3, "wan sum 7 " + full},
		{knows, -3 - 16 - 64, "wan sum 7 " + full}, {knows, -3 - 16 - 32, "wan sum 5 " + full}, {knows, 1 + 4 + 8, "wan sum 5 " + full},
		{hidden, 1, ""}, {third, 1, ""}, {loner, 1, "wan sum 5 1:0:alive*,3:7:left"},
		{n, 2, ""}, {knows, 2, "lan sum 0 4:0:suspect*,5:1:alive*,6:2:alive,7:3:alive*"}, {knows, 6, "lan sum 2 4:0:suspect*,5:1:alive*,6:2:alive,7:3:alive*"},
		{knows, -2, "lan sum 2 4:0:suspect*,5:1:alive*,6:2:alive,7:3:alive*"}, {knows, math.MaxInt - 1, "lan sum 2 4:0:suspect*,5:1:alive*,6:2:alive,7:3:alive*"},
		{knows, math.MinInt + 2, "lan sum 0 4:0:suspect*,5:1:alive*,6:2:alive,7:3:alive*"}, {loner, 2, ""},
		{n, 3, ""}, {knows, -1, ""}, {knows, math.MaxInt, ""}, {knows, math.MinInt + 3, ""},
	} {
		after, words := impl.NodeTick(c.n, c.draw)
		sent := ""
		for _, w := range words {
			sent = fmt.Sprint(poolTexts[w.Pool], " ", kindTexts[w.Kind], " ", w.To, " ", impl.TableText(w.Facts))
			expect(t, fmt.Sprint(w), w.From == c.n.Me && w.About == c.n.Me && w.Seq == 0, true)
		}
		expect(t, fmt.Sprint(c.n, " by ", c.draw), sent, c.want)
		c.n.Now = 1
		expect(t, fmt.Sprint("nothing else of ", c.n), same(after, c.n), true)
	}
}

// What is sent at one tick is sent in the order of its steps.
func TestWordsOfATickInTheirOrder(t *testing.T) {
	n := meets(0, "1:0:alive,2:0:alive,3:0:alive")
	n.Now, n.Seq, n.Probe = 11, 4, impl.Probe{Node: 2, Since: 10, Seq: 4}
	_, words := impl.NodeTick(n, 0)
	expect(t, "ask, ask, sync", fmt.Sprint(words[0].Kind, words[1].Kind, words[2].Kind, len(words)), fmt.Sprint(askKind, askKind, syncKind, 3))
	n.Probe = impl.Probe{Node: -1}
	n.Cast = []impl.Item{item(fact(1, 0, isAlive), 4)}
	_, words = impl.NodeTick(n, 1)
	expect(t, "ping, sum", fmt.Sprint(words[0].Kind, words[1].Kind, len(words)), fmt.Sprint(pingKind, sumKind, 2))
	// What became Dead at this tick is neither asked nor passed over by what is sent behind that.
	n.Table[1].Is, n.Doubts = isSuspect, []impl.Doubt{{Node: 1, Since: 6, By: []int{0}}}
	_, words = impl.NodeTick(n, 0)
	expect(t, "dead ones are not asked", words[0].Kind == pingKind && words[0].To == 2, true)
	expect(t, "all of Table as it is then", impl.TableText(words[1].Facts), "0:0:alive*,1:0:dead,2:0:alive,3:0:alive")
}

func TestJoinsOfNodesByHand(t *testing.T) {
	n := plainNode()
	for to := -2; to <= factMaxNode+2; to++ {
		after, words := impl.NodeJoin(n, to)
		expect(t, fmt.Sprint("join ", to), same(after, n), true)
		if to != 0 && to != 2 && to != 3 {
			expect(t, fmt.Sprint("join ", to), len(words), 0)
			continue
		}
		want := impl.Word{Pool: lan, Kind: syncKind, From: 1, To: to, About: 1, Coord: n.Coord, Facts: n.Table}
		expect(t, fmt.Sprint("join ", to), same(words, []impl.Word{want}), true)
	}
	for _, to := range []int{math.MinInt, -4, -3, -1, 8, math.MaxInt} {
		_, words := impl.NodeJoin(impl.NodeNew(0, true), to)
		expect(t, fmt.Sprint("join ", to), len(words), 0)
	}
	_, words := impl.NodeJoin(impl.NodeNew(7, true), 4)
	expect(t, "of the last site", len(words) == 1 && words[0].To == 4, true)
}

func TestLeavesByHand(t *testing.T) {
	n := plainNode()
	after, words := impl.NodeLeave(n)
	want := plainNode()
	want.Gone = true
	want.Table[1].Is = hasLeft
	want.Cast = []impl.Item{want.Cast[0], item(gate(1, 5, hasLeft), castTimes), want.Cast[1]}
	expect(t, "gone", fmt.Sprint(after), fmt.Sprint(want))
	tells := func(to int) impl.Word {
		return impl.Word{Pool: lan, Kind: backKind, From: 1, To: to, About: 1, Coord: n.Coord, Facts: want.Table}
	}
	expect(t, "told", fmt.Sprint(words), fmt.Sprint([]impl.Word{tells(0), tells(2)}))
	last := n
	last.Inc = factMaxInc
	last.Table = table("0:3:alive*,1:999:alive*,2:6:suspect*,3:7:dead")
	after, words = impl.NodeLeave(last)
	expect(t, "by the last number", factOf(after.Table, 1) == gate(1, factMaxInc, hasLeft) && len(words) == 2, true)
	_, words = impl.NodeLeave(impl.NodeNew(3, false))
	expect(t, "alone", len(words), 0)
}

func TestViewsByHand(t *testing.T) {
	expect(t, "own site first", impl.TableText(impl.NodeView(plainNode())),
		"0:3:alive*,1:5:alive*,2:6:suspect*,3:7:dead,4:0:alive*,5:1:alive*,6:2:alive*,7:1:left")
	n := impl.NodeNew(6, false)
	n.Others = []impl.Foreign{{Site: 0, Facts: table("2:4:left,3:0:alive")}}
	expect(t, "other site first", impl.TableText(impl.NodeView(n)), "2:4:left,3:0:alive,6:0:alive")
	gone, _ := impl.NodeLeave(n)
	expect(t, "who is gone still sees", impl.TableText(impl.NodeView(gone)), "2:4:left,3:0:alive,6:0:left")
	expectList(t, "who is down does not", impl.NodeView(down(2, true)), nil)
}

func TestTheNearestByHand(t *testing.T) {
	n := meets(4, "5:0:alive,6:0:alive,7:0:alive")
	n.Coord = at(0, 0, 0, 10)
	n.Places = []impl.Place{
		{Node: 5, Coord: at(30, 40, 0, 10), Trips: []int{1}},
		{Node: 6, Coord: at(0, -20, 29, 10), Trips: []int{1}},
		{Node: 7, Coord: at(0, 0, 50, 10), Trips: []int{1}},
	}
	for most, want := range map[int][]int{
		math.MinInt: nil, -1: nil, 0: nil, 1: {6}, 2: {6, 5}, 3: {6, 5, 7}, 4: {6, 5, 7}, math.MaxInt: {6, 5, 7},
	} {
		expectList(t, fmt.Sprint("most ", most), impl.NodeNear(n, most), want)
	}
	n.Places[0].Coord.H = 1
	expectList(t, "further by its height", impl.NodeNear(n, 9), []int{6, 7, 5})
	for is := isSuspect; is <= hasLeft; is++ {
		other := n
		other.Table = slices.Clone(n.Table)
		other.Table[2].Is = is
		if is == isSuspect {
			other.Doubts = []impl.Doubt{{Node: 6, By: []int{4}}}
		}
		expectList(t, "only those that are alive", impl.NodeNear(other, 1), []int{7})
	}
	n.Table = n.Table[:3]
	expectList(t, "only those of Table", impl.NodeNear(n, 9), []int{6, 5})
	gone, _ := impl.NodeLeave(n)
	expectList(t, "who is gone still knows", impl.NodeNear(gone, 9), []int{6, 5})
	expectList(t, "who is down does not", impl.NodeNear(down(4, true), 9), nil)
}
