package tests

import (
	"fmt"
	"slices"
	"testing"

	"loop.example/lightship/impl"
)

func TestPromise49AllWasToldFirstByOneWhoMay(t *testing.T) {
	born := map[int]int{}
	for _, one := range allPlays() {
		for _, w := range []impl.World{one.last, one.calm} {
			expect(t, fmt.Sprint(one.list), impl.WorldSafe(w), true)
			for _, f := range w.Born {
				born[f.Is]++
			}
		}
	}
	expect(t, "enough of all is told", born[isSuspect] > 200 && born[isDead] > 100 && born[hasLeft] > 50, true)
	// At each step, too.
	for _, one := range allPlays()[:40] {
		w := impl.WorldNew()
		for i, e := range one.list {
			w, _ = impl.WorldDo(w, e)
			if !impl.WorldSafe(w) {
				t.Fatalf("not safe behind %d of %v", i+1, one.list)
			}
		}
	}
}

// The plays are fixed. The promise is wider than what the document's calm does: behind `leave 7`, `leave 1`, `tick 6 457`,
// `leave 3`, `leave 6`, `fall 4`, `fall 0` each site has one node alone, and 40 rounds are too few for these two to hear from
// each other what they need (60 are enough); of plays as they are drawn here that befalls one in some thousands.
func TestPromise50InACalmAllSeeTheSame(t *testing.T) {
	manned := 0
	for _, one := range allPlays() {
		if !isManned(one.last) {
			continue
		}
		manned++
		if !impl.WorldSame(one.calm) {
			t.Fatalf("behind %v:\n%s", one.list, impl.WorldBoard(one.calm))
		}
		for _, n := range one.calm.Nodes {
			for _, f := range impl.NodeView(n) {
				if isIn(n) && isIn(one.calm.Nodes[f.Node]) != (f.Is == isAlive) {
					t.Fatalf("%d sees %v behind %v", n.Me, f, one.list)
				}
			}
		}
	}
	expect(t, "enough of them are manned", manned > 150, true)
}

func viewsOf(w impl.World) string {
	text := ""
	for _, n := range w.Nodes {
		text += fmt.Sprint(impl.NodeView(n), "\n")
	}
	return text
}

func TestPromise51WhenAllSeeTheSameNothingChanges(t *testing.T) {
	same := 0
	for _, one := range allPlays() {
		if impl.WorldSame(one.calm) {
			same++
			expect(t, fmt.Sprint(one.list), viewsOf(impl.WorldCalm(one.calm, 8)), viewsOf(one.calm))
		}
	}
	expect(t, "enough see the same", same > 150, true)
}

// worldsWithWords are worlds that were played, or may be, with words under way.
func worldsWithWords(seed uint64) []impl.World {
	var list []impl.World
	for _, one := range allPlays() {
		list = append(list, one.last)
	}
	return slices.DeleteFunc(append(list, someWorlds(seed, 150)...), func(w impl.World) bool { return len(w.Radio) == 0 })
}

func TestPromise52AWordThatWasSpoiltChangesNothing(t *testing.T) {
	d := &draws{5301}
	spoilt := 0
	for _, w := range worldsWithWords(5302) {
		for place, f := range w.Radio {
			if _, ok := impl.WordRead(f.Text); !ok || f.Spoil || d.between(0, 4) > 0 {
				continue
			}
			spoilt++
			other := does(t, w, impl.Event{Kind: doSpoil, Node: place, Draw: drawDraw(d)})
			expect(t, "only that word is another one", same(other.Nodes, w.Nodes) && slices.Equal(slices.Delete(other.Radio, place, place+1), slices.Delete(slices.Clone(w.Radio), place, place+1)), true)
			other = does(t, w, impl.Event{Kind: doSpoil, Node: place, Draw: drawDraw(d)})
			other = does(t, other, impl.Event{Kind: doBring, Node: place, Keep: d.between(0, 1) == 1})
			if !same(other.Nodes, w.Nodes) || !slices.Equal(other.Born, w.Born) {
				t.Fatalf("%v was spoilt, and brought: %+v", f, w)
			}
		}
	}
	expect(t, "enough are spoilt", spoilt > 400, true)
	// Each byte by each change.
	w := impl.WorldNew()
	w.Radio = []impl.Flight{flightOf(told(syncKind, 0, 1, "0:7:alive*,1:0:dead"))}
	for at := range len(w.Radio[0].Text) {
		for by := range 128 {
			other := does(t, w, impl.Event{Kind: doSpoil, Draw: at + by*4096})
			other = does(t, other, impl.Event{Kind: doBring})
			expect(t, fmt.Sprint(at, " by ", by), same(other.Nodes, w.Nodes) && len(other.Radio) == 0, true)
		}
	}
}

func numbersOf(w impl.World) string {
	text := ""
	for _, n := range w.Nodes {
		text += fmt.Sprint(n.Inc, " ")
	}
	return text
}

func TestPromise53AWordThatComesTwiceSaysNothingMore(t *testing.T) {
	d := &draws{5303}
	for _, w := range worldsWithWords(5304) {
		for place := range w.Radio {
			if d.between(0, 4) > 0 {
				continue
			}
			once := does(t, w, impl.Event{Kind: doBring, Node: place, Keep: true})
			expect(t, "it stays", once.Radio[place], w.Radio[place])
			for _, keep := range []bool{true, false} {
				twice := does(t, once, impl.Event{Kind: doBring, Node: place, Keep: keep})
				if viewsOf(twice) != viewsOf(once) || numbersOf(twice) != numbersOf(once) || !slices.Equal(twice.Born, once.Born) {
					t.Fatalf("%v twice in %+v", w.Radio[place], w)
				}
			}
		}
	}
}

func TestPromise54AWordThatIsLostChangesNobody(t *testing.T) {
	for _, w := range worldsWithWords(5305) {
		for place := range w.Radio {
			after := does(t, w, impl.Event{Kind: doLose, Node: place})
			want := copyWorld(w)
			want.Radio = slices.Delete(want.Radio, place, place+1)
			if !sameWorld(after, want) {
				t.Fatalf("%d lost in %+v", place, w)
			}
		}
	}
}

// eachEvent holds something of what happens in worlds that were played, or may be.
func eachEvent(t *testing.T, seed uint64, holds func(w impl.World, e impl.Event, after impl.World) bool) {
	t.Helper()
	d := &draws{seed}
	worlds := someWorlds(seed+1, 400)
	for _, one := range allPlays() {
		worlds = append(worlds, one.last, one.calm)
	}
	for _, w := range worlds {
		for range 8 {
			e := drawEvent(d, len(w.Radio))
			after, could := impl.WorldDo(w, e)
			if !could && !sameWorld(after, w) || !impl.WorldOk(after) || !holds(w, e, after) {
				t.Fatalf("%+v in %+v\nbecame %+v", e, w, after)
			}
		}
	}
}

func TestPromise55WhatHappensToOneChangesOnlyThatOne(t *testing.T) {
	eachEvent(t, 5306, func(w impl.World, e impl.Event, after impl.World) bool {
		to := e.Node
		if e.Kind == doBring && 0 <= e.Node && e.Node < len(w.Radio) {
			to = w.Radio[e.Node].To
		}
		for me := range w.Nodes {
			isFor := me == to && e.Kind != doLose && e.Kind != doSpoil && e.Kind != doSide && e.Kind != doJoin
			if !isFor && !same(after.Nodes[me], w.Nodes[me]) {
				return false
			}
		}
		for node := range w.Sides {
			if after.Sides[node] != w.Sides[node] && (e.Kind != doSide || node != e.Node) {
				return false
			}
		}
		return !slices.ContainsFunc(w.Born, func(f impl.Fact) bool { return !slices.Contains(after.Born, f) })
	})
}

func countTo(radio []impl.Flight, node int) int {
	count := 0
	for _, f := range radio {
		if f.To == node {
			count++
		}
	}
	return count
}

func TestPromise56WhatIsSaidDoesNotGetToAnotherSide(t *testing.T) {
	d := &draws{5308}
	tried := 0
	for _, w := range worldsWithWords(5309) {
		for range 12 {
			alone := d.between(0, factMaxNode)
			w = copyWorld(w)
			side := d.between(0, 2)
			for node := range w.Sides {
				w.Sides[node] = (side + d.between(1, 2)) % 3
			}
			w.Sides[alone] = side
			e := drawEvent(d, len(w.Radio))
			if d.between(0, 1) == 0 {
				e.Node = alone
			}
			if e.Kind == doSide {
				continue
			}
			tried++
			after, _ := impl.WorldDo(w, e)
			heard := e.Kind == doBring && !same(after.Nodes[alone], w.Nodes[alone])
			said := e.Kind != doBring && e.Kind != doLose && e.Node == alone && len(after.Radio) > len(w.Radio)
			if countTo(after.Radio, alone) > countTo(w.Radio, alone) || heard || said {
				t.Fatalf("%d is alone, and %v in %+v\nbecame %+v", alone, e, w, after)
			}
		}
	}
	expect(t, "enough is tried", tried > 1000, true)
	// A word to each one who is alone, from each one: neither sent nor heard.
	for from := range nodeCount {
		for _, to := range mates(from) {
			w := impl.WorldNew()
			w = does(t, w, impl.Event{Kind: doJoin, Node: from, Draw: to})
			expect(t, "sent on one side", len(w.Radio), 1)
			w = does(t, w, impl.Event{Kind: doSide, Node: to, Draw: 1})
			after := does(t, w, impl.Event{Kind: doBring})
			expect(t, "not heard", same(after.Nodes, w.Nodes) && len(after.Radio) == 0, true)
			after = does(t, w, impl.Event{Kind: doJoin, Node: from, Draw: to})
			expectList(t, "not sent", after.Radio, w.Radio)
		}
	}
}

func TestPromise57WhoFallsForgetsAll(t *testing.T) {
	worlds := someWorlds(5310, 200)
	for _, one := range allPlays() {
		worlds = append(worlds, one.last)
	}
	for _, w := range worlds {
		for node, n := range w.Nodes {
			fallen := w
			if n.Up {
				fallen = does(t, w, impl.Event{Kind: doFall, Node: node})
			}
			expect(t, "down", same(fallen.Nodes[node], down(node, mayGate(node))), true)
			risen := does(t, fallen, impl.Event{Kind: doRise, Node: node})
			want := copyWorld(w)
			want.Nodes[node] = impl.NodeNew(node, mayGate(node))
			want.Born = joinBorn(w.Born, impl.Fact{Node: node, Is: isAlive, Gate: mayGate(node)})
			if !sameWorld(risen, want) {
				t.Fatalf("%d fell and rose in %+v\nbecame %+v", node, w, risen)
			}
		}
	}
}

// allSee says whether all who are there see a node in one way.
func allSee(w impl.World, node int, is int) bool {
	for _, n := range w.Nodes {
		if isIn(n) && factOf(impl.NodeView(n), node).Is != is {
			return false
		}
	}
	return true
}

func TestPromise58WhoHasRisenIsBelievedToLive(t *testing.T) {
	d := &draws{5311}
	risen := 0
	for _, one := range allPlays() {
		node := d.between(0, factMaxNode)
		w, could := impl.WorldDo(one.last, impl.Event{Kind: doFall, Node: node})
		if !could {
			continue
		}
		w = impl.WorldCalm(w, d.oneOf([]int{0, 5, 20, 40}))
		w = does(t, w, impl.Event{Kind: doRise, Node: node})
		if !isManned(w) {
			continue
		}
		risen++
		if after := impl.WorldCalm(w, 40); !allSee(after, node, isAlive) {
			t.Fatalf("%d fell and rose behind %v:\n%s", node, one.list, impl.WorldBoard(after))
		}
	}
	expect(t, "enough have risen", risen > 120, true)
	// Who is told dead by all, and rises, is believed by a greater number.
	calm := impl.WorldCalm(impl.WorldNew(), 40)
	for node := range nodeCount {
		w := impl.WorldCalm(does(t, calm, impl.Event{Kind: doFall, Node: node}), 40)
		expect(t, fmt.Sprint(node, " is dead"), allSee(w, node, isDead) && impl.WorldSame(w), true)
		w = impl.WorldCalm(does(t, w, impl.Event{Kind: doRise, Node: node}), 40)
		expect(t, fmt.Sprint(node, " lives"), allSee(w, node, isAlive) && impl.WorldSame(w) && w.Nodes[node].Inc == 1, true)
	}
}

func TestPromise59OneByOneIsTogether(t *testing.T) {
	for _, one := range allPlays() {
		w := impl.WorldNew()
		for _, e := range one.list {
			w, _ = impl.WorldDo(w, e)
		}
		if !sameWorld(w, one.last) {
			t.Fatalf("%v one by one is %+v\ntogether %+v", one.list, w, one.last)
		}
	}
}

func TestPromise60WhatNobodyToldFirstIsNotSafe(t *testing.T) {
	left := 0
	for _, one := range allPlays() {
		w := one.last
		views := map[impl.Fact]int{}
		for _, n := range w.Nodes {
			for _, f := range impl.NodeView(n) {
				views[f]++
				expect(t, fmt.Sprint(f, " was told"), slices.Contains(w.Born, f), true)
			}
		}
		for i, f := range w.Born {
			if views[f] > 0 {
				left++
				v := copyWorld(w)
				v.Born = slices.Delete(v.Born, i, i+1)
				expect(t, fmt.Sprint("without ", f), impl.WorldSafe(v), false)
			}
		}
	}
	expect(t, "enough are left out", left > 500, true)
}

func TestPromise61HowAllStandsCanAlwaysBeTold(t *testing.T) {
	worlds := someWorlds(5312, 400)
	for _, one := range allPlays() {
		worlds = append(worlds, one.last, one.calm)
	}
	for _, c := range fineWorlds() {
		worlds = append(worlds, changedWorld(c))
	}
	for _, w := range worlds {
		expect(t, fmt.Sprint(w), impl.WorldBoard(w), playedOf(w).board())
	}
}

func TestPromise62WhereNobodyTicksNothingNewIsSaid(t *testing.T) {
	alive := 0
	eachEvent(t, 5313, func(w impl.World, e impl.Event, after impl.World) bool {
		if e.Kind == doTick || e.Kind == doRise || e.Kind == doLeave {
			return true
		}
		for _, f := range after.Born {
			if !slices.Contains(w.Born, f) {
				if f.Is != isAlive {
					return false
				}
				alive++
			}
		}
		return true
	})
	expect(t, "enough say that they live", alive > 20, true)
}

func TestPromise63WhoLeftIsToldToHaveLeft(t *testing.T) {
	left := 0
	for i, one := range allPlays() {
		node := i % nodeCount
		if !impl.WorldSame(one.calm) || !isIn(one.calm.Nodes[node]) {
			continue
		}
		w := does(t, one.calm, impl.Event{Kind: doLeave, Node: node})
		if !isManned(w) {
			continue
		}
		left++
		after := impl.WorldCalm(w, 20)
		if !allSee(after, node, hasLeft) || factOf(impl.NodeView(after.Nodes[node]), node).Is != hasLeft {
			t.Fatalf("%d left behind %v:\n%s", node, one.list, impl.WorldBoard(after))
		}
	}
	expect(t, "enough have left", left > 80, true)
	calm := impl.WorldCalm(impl.WorldNew(), 40)
	for node := range nodeCount {
		after := impl.WorldCalm(does(t, calm, impl.Event{Kind: doLeave, Node: node}), 20)
		expect(t, fmt.Sprint(node), allSee(after, node, hasLeft) && impl.WorldSame(after), true)
	}
}

func TestPromise80WhenAllSeeTheSameAllKnowTheSameGateways(t *testing.T) {
	same := 0
	for _, one := range allPlays() {
		for _, w := range []impl.World{one.last, one.calm} {
			if !impl.WorldSame(w) {
				continue
			}
			same++
			for site := range 2 {
				var want []int
				for _, node := range siteNodes(site * siteSize) {
					if isIn(w.Nodes[node]) && mayGate(node) && len(want) < gateCount {
						want = append(want, node)
					}
				}
				for _, n := range w.Nodes {
					if isIn(n) {
						expectList(t, fmt.Sprint(n.Me, " of site ", site), impl.NodeGates(n, site), want)
					}
				}
			}
		}
	}
	expect(t, "enough see the same", same > 150, true)
}

func TestPromise81InACalmNobodyForgetsAnything(t *testing.T) {
	d := &draws{5314}
	worlds := someWorlds(5315, 60)
	for _, one := range allPlays() {
		worlds = append(worlds, one.last)
	}
	for _, w := range worlds {
		rounds := d.oneOf([]int{-1, 0, 1, 3, 7, 12})
		after := impl.WorldCalm(w, rounds)
		expect(t, "ok", impl.WorldOk(after), true)
		expect(t, "nothing is under way", len(after.Radio), 0)
		for me, n := range w.Nodes {
			for _, f := range impl.NodeView(n) {
				if !holds(impl.NodeView(after.Nodes[me]), f) {
					t.Fatalf("%d forgot %v by %d rounds of %+v", me, f, rounds, w)
				}
			}
		}
		for _, f := range w.Born {
			expect(t, fmt.Sprint(f, " was told"), slices.Contains(after.Born, f), true)
		}
	}
}

// worldHanded is all that any function of worlds is handed.
type worldHanded struct {
	World impl.World
	List  []impl.Event
	Lines []string
}

func worldCalls(d *draws) map[string]func(h worldHanded) []any {
	e, rounds := drawEvent(d, 3), d.between(-1, 2)
	return map[string]func(h worldHanded) []any{
		"WorldOk":      func(h worldHanded) []any { impl.WorldOk(h.World); return nil },
		"WorldDo":      func(h worldHanded) []any { w, _ := impl.WorldDo(h.World, e); return []any{w} },
		"WorldPlay":    func(h worldHanded) []any { return []any{impl.WorldPlay(h.List)} },
		"WorldSafe":    func(h worldHanded) []any { impl.WorldSafe(h.World); return nil },
		"WorldCalm":    func(h worldHanded) []any { return []any{impl.WorldCalm(h.World, rounds)} },
		"WorldSame":    func(h worldHanded) []any { impl.WorldSame(h.World); return nil },
		"WorldBoard":   func(h worldHanded) []any { impl.WorldBoard(h.World); return nil },
		"WorldSession": func(h worldHanded) []any { impl.WorldSession(h.Lines); return nil },
		"ScriptWrite":  func(h worldHanded) []any { impl.ScriptWrite(h.List); return nil },
	}
}

func TestWorldsAreNewMemory(t *testing.T) {
	d := &draws{5316}
	worlds := someWorlds(5317, 60)
	for _, one := range allPlays()[:30] {
		worlds = append(worlds, one.last, one.calm)
	}
	for _, c := range spoiltWorlds() {
		worlds = append(worlds, changedWorld(c))
	}
	for _, w := range worlds {
		h := worldHanded{w, drawEvents(d, d.between(0, 6)), []string{"tick 0 1", "join 1 0", "bring 0", "what", "calm 1"}}
		for what, call := range worldCalls(d) {
			clean(t, what, h, call)
		}
	}
	// Each kind, of a world that has something of everything.
	for kind := 0; kind <= doJoin+1; kind++ {
		for node := range nodeCount {
			for draw := range 5 {
				clean(t, fmt.Sprint(kind, " of ", node), plainWorld(), func(w impl.World) []any {
					after, _ := impl.WorldDo(w, impl.Event{Kind: kind, Node: node, Draw: draw, Keep: draw == 4})
					return []any{after}
				})
			}
		}
	}
	expect(t, "WorldNew", shared(0, []any{impl.WorldNew(), impl.WorldNew()}), "")
	expect(t, "WorldPlay of nothing", shared(0, []any{impl.WorldPlay(nil), impl.WorldNew(), impl.WorldPlay(nil)}), "")
	expect(t, "WorldPlay of too much", shared(0, []any{impl.WorldPlay(make([]impl.Event, worldMaxEvent+1)), impl.WorldNew()}), "")
}

// A world whose lists all lie in one memory is answered apart.
func TestWorldsOfOneMemoryAreAnsweredApart(t *testing.T) {
	facts := table("0:0:alive*,1:0:alive*,2:0:alive*,3:0:alive")
	w := impl.WorldNew()
	for me := range siteSize {
		w.Nodes[me].Table = facts
	}
	w.Born = joinBorn(w.Born)
	for _, e := range []impl.Event{{}, {Kind: doTick}, {Kind: doLeave, Node: 3}, {Kind: doRise}, {Kind: doFall, Node: 2}, {Kind: doJoin, Node: 1}} {
		after, _ := impl.WorldDo(w, e)
		expect(t, fmt.Sprint(e), shared(w, []any{after}), "")
	}
	expect(t, "calm", shared(w, []any{impl.WorldCalm(w, 2)}), "")
}

// Two calls with the same arguments answer the same, in lists of their own.
func TestWorldsKeepNothingBetweenTwoCalls(t *testing.T) {
	d := &draws{5318}
	for _, w := range someWorlds(5319, 60) {
		h := worldHanded{w, drawEvents(d, 20), []string{"tick 0 1", "join 1 0", "calm 1", "bring 0"}}
		for what, call := range worldCalls(d) {
			one, other := call(h), call(h)
			expect(t, what, fmt.Sprint(one), fmt.Sprint(other))
			expect(t, what+" shares", shared(one, other), "")
		}
	}
}
