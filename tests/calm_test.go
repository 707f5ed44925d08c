package tests

import (
	"fmt"
	"math"
	"slices"
	"testing"

	"loop.example/lightship/impl"
)

// only is a world in which all are down but some, who know what their tables say.
func only(nodes ...impl.Node) impl.World {
	w := impl.WorldNew()
	for me := range w.Nodes {
		w.Nodes[me] = down(me, mayGate(me))
	}
	for _, n := range nodes {
		w.Nodes[n.Me] = n
	}
	w.Born = bornOf(w.Nodes)
	return w
}

// knows is a node that has heard of others of its site, and of the other site.
func knows(me int, own string, other string) impl.Node {
	n := meets(me, own)
	if other != "-" {
		n.Others = []impl.Foreign{{Site: 1 - me/siteSize, Facts: table(other)}}
	}
	return n
}

func gone(n impl.Node) impl.Node {
	n, _ = impl.NodeLeave(n)
	return n
}

func TestWorldSame(t *testing.T) {
	inc3 := knows(0, "1:0:alive*", "-")
	inc3.Inc, inc3.Table[0].Inc = 3, 3
	for _, c := range []struct {
		what string
		w    impl.World
		want bool
	}{
		{"nobody", only(), true},
		{"one alone", only(knows(0, "-", "-")), true},
		{"the last one alone", only(impl.NodeNew(7, false)), true},
		{"one who takes another one for alive", only(knows(0, "1:0:alive", "-")), false},
		{"one who suspects another one", only(knows(0, "1:0:suspect", "-")), true},
		{"one who takes another one for dead", only(knows(0, "1:0:dead", "-")), true},
		{"one who takes another one for left", only(knows(0, "1:0:left", "-")), true},
		{"one who takes one of another site for alive", only(knows(0, "-", "5:0:alive")), false},
		{"one who takes one of another site for dead", only(knows(0, "-", "5:0:dead")), true},
		{"two who know each other", only(knows(0, "1:0:alive*", "-"), knows(1, "0:0:alive*", "-")), true},
		{"two of whom one knows the other", only(knows(0, "1:0:alive*", "-"), knows(1, "-", "-")), false},
		{"two, the other one", only(knows(0, "-", "-"), knows(1, "0:0:alive*", "-")), false},
		{"two, by another number", only(knows(0, "1:0:alive*", "-"), knows(1, "0:1:alive*", "-")), false},
		{"two, by an older number", only(inc3, knows(1, "0:1:alive*", "-")), false},
		{"two, by the same number", only(inc3, knows(1, "0:3:alive*", "-")), true},
		{"two, of whom one does not know who may be a gateway", only(knows(0, "1:0:alive", "-"), knows(1, "0:0:alive*", "-")), false},
		{"two who suspect each other", only(knows(0, "1:0:suspect*", "-"), knows(1, "0:0:suspect*", "-")), false},
		{"two, a third one dead for one of them", only(knows(0, "1:0:alive*,2:0:dead", "-"), knows(1, "0:0:alive*", "-")), false},
		{"two, a third one dead", only(knows(0, "1:0:alive*,2:0:dead", "-"), knows(1, "0:0:alive*,2:0:dead", "-")), true},
		{"two, a third one dead, or suspect", only(knows(0, "1:0:alive*,2:0:dead", "-"), knows(1, "0:0:alive*,2:0:suspect", "-")), false},
		{"two of two sites", only(knows(0, "-", "5:0:alive*"), knows(5, "-", "0:0:alive*")), true},
		{"two of two sites, one by itself", only(knows(0, "-", "5:0:alive*"), knows(5, "-", "-")), false},
		{"two of two sites, each by itself", only(knows(0, "-", "-"), knows(5, "-", "-")), false},
		{"two of two sites, one dead for one", only(knows(0, "-", "5:0:alive*"), knows(5, "-", "0:0:alive*,1:0:dead")), false},
		{"one who left, taken for alive", only(gone(knows(0, "1:0:alive*", "-")), knows(1, "0:0:alive*", "-")), false},
		{"one who left, and is seen so", only(gone(knows(0, "1:0:alive*", "-")), knows(1, "0:0:left*", "-")), true},
		{"one who left, and is dead for the other one", only(gone(knows(0, "1:0:alive*", "-")), knows(1, "0:0:dead*", "-")), true},
		{"one who left and saw another thing", only(gone(knows(0, "1:8:dead,2:1:alive", "-")), knows(1, "0:0:left*", "-")), true},
		{"nobody but one who left", only(gone(knows(0, "1:8:alive", "-"))), true},
	} {
		expect(t, "ok: "+c.what, impl.WorldOk(c.w), true)
		expect(t, c.what, impl.WorldSame(c.w), c.want)
		expect(t, "the model: "+c.what, playedOf(c.w).same(), c.want)
	}
}

func TestWorldSafe(t *testing.T) {
	told := func(n impl.Node, born ...string) impl.World {
		w := only(n)
		w.Born = nil
		for _, text := range born {
			w.Born = append(w.Born, table(text)...)
		}
		return w
	}
	one := knows(1, "-", "-")
	for _, c := range []struct {
		what string
		w    impl.World
		want bool
	}{
		{"nobody, nothing", told(down(0, true)), true},
		{"one", told(one, "1:0:alive*"), true},
		{"one of whom nobody told", told(one), false},
		{"one of whom another number was told", told(one, "1:1:alive*"), false},
		{"one of whom another Gate was told", told(one, "1:0:alive"), false},
		{"one of whom another thing was told", told(one, "1:0:left*"), false},
		{"more was told than anybody knows", told(one, "1:0:alive*", "1:0:left*", "7:5:left"), true},
		{"suspected behind alive", told(one, "1:0:alive*", "2:4:alive", "2:4:suspect"), true},
		{"suspected, and not alive", told(one, "1:0:alive*", "2:4:suspect"), false},
		{"suspected, and alive by another number", told(one, "1:0:alive*", "2:3:alive", "2:4:suspect"), false},
		{"suspected, and alive by another Gate", told(one, "1:0:alive*", "2:4:alive*", "2:4:suspect"), false},
		{"suspected, and another one alive", told(one, "1:0:alive*", "3:4:alive", "2:4:suspect"), false},
		{"dead behind suspected and alive", told(one, "1:0:alive*", "2:4:alive", "2:4:suspect", "2:4:dead"), true},
		{"dead, and not suspected", told(one, "1:0:alive*", "2:4:alive", "2:4:dead"), false},
		{"dead and suspected, and not alive", told(one, "1:0:alive*", "2:4:suspect", "2:4:dead"), false},
		{"dead by one number, suspected by another", told(one, "1:0:alive*", "2:3:alive", "2:3:suspect", "2:4:dead"), false},
		{"left by itself", told(one, "1:0:alive*", "2:4:left"), true},
		{"left, and not alive, by Gate", told(gone(one), "1:0:left*"), true},
		{"one who left, of whom nobody told that", told(gone(one), "1:0:alive*"), false},
		{"one of another site", told(knows(1, "-", "5:3:alive"), "1:0:alive*", "5:3:alive"), true},
		{"one of another site of whom nobody told", told(knows(1, "-", "5:3:alive"), "1:0:alive*"), false},
		{"two of another site of whom one was told", told(knows(1, "-", "5:3:alive,7:0:left"), "1:0:alive*", "5:3:alive"), false},
		{"one who is suspected", told(knows(1, "2:4:suspect", "-"), "1:0:alive*", "2:4:alive", "2:4:suspect"), true},
		{"one who is suspected, of whom that was not told", told(knows(1, "2:4:suspect", "-"), "1:0:alive*", "2:4:alive"), false},
	} {
		slices.SortStableFunc(c.w.Born, func(f impl.Fact, g impl.Fact) int { return f.Node - g.Node })
		expect(t, "ok: "+c.what, impl.WorldOk(c.w), true)
		expect(t, c.what, impl.WorldSafe(c.w), c.want)
		expect(t, "the model: "+c.what, playedOf(c.w).safe(), c.want)
	}
}

// Each fact of Born that somebody needs, left out.
func TestWorldSafeNeedsAllThatWasTold(t *testing.T) {
	w := plainWorld()
	expect(t, "all told", impl.WorldSafe(w), true)
	for i, f := range w.Born {
		v := copyWorld(w)
		v.Born = slices.Delete(v.Born, i, i+1)
		expect(t, fmt.Sprint("without ", f), impl.WorldSafe(v), false)
	}
	for _, w := range someWorlds(5201, 600) {
		expect(t, fmt.Sprint(w), impl.WorldSafe(w), playedOf(w).safe())
		w.Born = bornOf(w.Nodes)
		expect(t, fmt.Sprint(w), impl.WorldSafe(w), true)
	}
}

func TestRoundsOfACalm(t *testing.T) {
	none := impl.WorldCalm(impl.WorldNew(), 0)
	for _, rounds := range []int{-1, -60, math.MinInt} {
		expect(t, fmt.Sprint(rounds), sameWorld(impl.WorldCalm(impl.WorldNew(), rounds), none), true)
	}
	for _, n := range none.Nodes {
		expect(t, "no ticks", n.Now, 0)
		expectList(t, "but all of a site know each other", nodesOf(n.Table), siteNodes(n.Me))
	}
	for rounds, ticks := range map[int]int{0: 0, 1: 1, 2: 2, 59: 59, 60: 60, 61: 60, 1000: 60, math.MaxInt: 60} {
		for _, n := range impl.WorldCalm(impl.WorldNew(), rounds).Nodes {
			expect(t, fmt.Sprint(rounds), n.Now, ticks)
		}
	}
}

func TestWhoTicksInACalm(t *testing.T) {
	w := impl.WorldNew()
	w.Nodes[0].Now, w.Nodes[1].Now, w.Nodes[2].Now = nodeMaxNow, nodeMaxNow-1, nodeMaxNow-5
	w.Nodes[5] = gone(w.Nodes[5])
	w.Nodes[6] = down(6, true)
	w.Born = bornOf(w.Nodes)
	w.Sides = []int{0, 1, 2, 0, 1, 2, 0, 1}
	after := impl.WorldCalm(w, 3)
	var now []int
	for _, n := range after.Nodes {
		now = append(now, n.Now)
	}
	expectList(t, "ticks", now, []int{nodeMaxNow, nodeMaxNow, nodeMaxNow - 2, 3, 3, 0, 0, 3})
	expectList(t, "sides", after.Sides, make([]int, nodeCount))
	expect(t, "who is gone stays so, and hears nothing", same(after.Nodes[5], w.Nodes[5]) && same(after.Nodes[6], w.Nodes[6]), true)
	expect(t, "nobody sees who fell", factOf(impl.NodeView(after.Nodes[4]), 6).Is, 0)
}

// What is under way when a calm begins is brought, on one side, before anybody asks for anything.
func TestACalmBringsWhatIsUnderWay(t *testing.T) {
	w := impl.WorldNew()
	w = does(t, w, impl.Event{Kind: doJoin, Node: 1, Draw: 0})
	w = does(t, w, impl.Event{Kind: doTick, Node: 6, Draw: 1 + 7<<5})
	w = does(t, w, impl.Event{Kind: doSide, Node: 0, Draw: 2})
	w = does(t, w, impl.Event{Kind: doFall, Node: 1})
	w = does(t, w, impl.Event{Kind: doFall, Node: 6})
	expect(t, "under way", len(w.Radio), 2)
	after := impl.WorldCalm(w, 0)
	expect(t, "under way", len(after.Radio), 0)
	expect(t, "heard by 0, and told on", impl.TableText(after.Nodes[2].Table), "0:0:alive*,1:0:alive*,2:0:alive*,3:0:alive")
	expect(t, "heard by 3", impl.TableText(impl.NodeView(after.Nodes[3])), "0:0:alive*,1:0:alive*,2:0:alive*,3:0:alive,6:0:alive*")
	expectList(t, "sides", after.Sides, make([]int, nodeCount))
}

func TestCalmAsTheModel(t *testing.T) {
	d := &draws{5202}
	worlds := someWorlds(5203, 90)
	for _, one := range allPlays()[:90] {
		worlds = append(worlds, one.last)
	}
	for _, w := range worlds {
		rounds := d.oneOf([]int{-1, 0, 1, 2, 5, 13, 40})
		p := playedOf(w)
		p.calm(rounds)
		after := impl.WorldCalm(w, rounds)
		what := fmt.Sprintf("%d rounds of %+v", rounds, w)
		likePlayed(t, what, p, after)
		expect(t, what, impl.WorldSame(after), p.same())
		expect(t, what, impl.WorldSafe(after), p.safe())
	}
}

// A world in which all see the same, but for one thing.
func TestNotTheSameByOneThing(t *testing.T) {
	calm := impl.WorldCalm(impl.WorldNew(), 40)
	expect(t, "calm", impl.WorldSame(calm), true)
	for me := range nodeCount {
		for node := range nodeCount {
			if node == me {
				continue
			}
			w := copyWorld(calm)
			n := &w.Nodes[me]
			n.Table, n.Others = slices.Clone(n.Table), []impl.Foreign{{Site: n.Others[0].Site, Facts: slices.Clone(n.Others[0].Facts)}}
			facts := n.Table
			if node/siteSize != me/siteSize {
				facts = n.Others[0].Facts
			}
			facts[node%siteSize].Inc = 1
			n.Cast = nil
			expect(t, fmt.Sprint(me, " sees ", node, " by another number"), impl.WorldOk(w) && !impl.WorldSame(w), true)
			facts[node%siteSize].Inc, facts[node%siteSize].Is = 0, isDead
			expect(t, fmt.Sprint(me, " sees ", node, " dead"), impl.WorldOk(w) && !impl.WorldSame(w), true)
		}
		w := copyWorld(calm)
		w.Nodes[me] = down(me, mayGate(me))
		expect(t, fmt.Sprint(me, " is down"), impl.WorldSame(w), false)
	}
}
