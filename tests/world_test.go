package tests

import (
	"fmt"
	"math"
	"slices"
	"strings"
	"testing"

	"loop.example/lightship/impl"
)

// worldChange makes another world of one.
type worldChange struct {
	what string
	make func(w *impl.World)
}

func changedWorld(c worldChange) impl.World {
	w := copyWorld(plainWorld())
	c.make(&w)
	return w
}

func fineWorlds() []worldChange {
	list := []worldChange{
		{"as it is", func(w *impl.World) {}},
		{"nothing under way", func(w *impl.World) { w.Radio = nil }},
		{"one less than may be under way", func(w *impl.World) { w.Radio = filled(worldMaxRadio - 1) }},
		{"as many as may be under way", func(w *impl.World) { w.Radio = filled(worldMaxRadio) }},
		{"To the first one", func(w *impl.World) { w.Radio[0].To = 0 }},
		{"To the last one", func(w *impl.World) { w.Radio[0].To = factMaxNode }},
		{"an empty text", func(w *impl.World) { w.Radio[0].Text = "" }},
		{"a text as long as may be", func(w *impl.World) { w.Radio[0].Text = strings.Repeat("\xff", wordMaxText) }},
		{"nothing told", func(w *impl.World) { w.Born = nil }},
		{"one told", func(w *impl.World) { w.Born = w.Born[:1] }},
		{"all down", func(w *impl.World) {
			for me := range w.Nodes {
				w.Nodes[me] = down(me, mayGate(me))
			}
		}},
	}
	for side := range 3 {
		list = append(list, worldChange{fmt.Sprint("all on side ", side), func(w *impl.World) { w.Sides = slices.Repeat([]int{side}, nodeCount) }})
	}
	// Each part of a fact that overrides, by itself.
	for _, born := range [][]impl.Fact{
		{fact(2, 5, isAlive), gate(2, 5, isAlive)}, {gate(2, 5, isAlive), fact(2, 5, isSuspect)}, {gate(2, 5, hasLeft), fact(2, 6, isAlive)},
		{gate(2, 999, hasLeft), fact(3, 0, isAlive)}, {fact(0, 0, isAlive), gate(7, 999, hasLeft)},
	} {
		list = append(list, worldChange{fmt.Sprint("told ", born), func(w *impl.World) { w.Born = born }})
	}
	return list
}

// gateNode is ok as a node, but for whether it may be a gateway.
func gateNode(me int, up bool) worldChange {
	return worldChange{fmt.Sprint("node ", me, " with another Gate, up: ", up), func(w *impl.World) {
		w.Nodes[me] = down(me, !mayGate(me))
		if up {
			w.Nodes[me] = impl.NodeNew(me, !mayGate(me))
		}
	}}
}

func spoiltWorlds() []worldChange {
	list := []worldChange{
		{"nothing at all", func(w *impl.World) { *w = impl.World{} }},
		{"no nodes", func(w *impl.World) { w.Nodes = nil }},
		{"one node less", func(w *impl.World) { w.Nodes = w.Nodes[:factMaxNode] }},
		{"one node less, one side less", func(w *impl.World) { w.Nodes, w.Sides = w.Nodes[:factMaxNode], w.Sides[:factMaxNode] }},
		{"one node more", func(w *impl.World) { w.Nodes = append(w.Nodes, impl.NodeNew(0, true)) }},
		{"one that cannot be more", func(w *impl.World) { w.Nodes = append(w.Nodes, impl.Node{Me: nodeCount, Gate: true}) }},
		{"two at each other's places", func(w *impl.World) { w.Nodes[5], w.Nodes[6] = w.Nodes[6], w.Nodes[5] }},
		{"one twice", func(w *impl.World) { w.Nodes[0] = w.Nodes[5] }},
		{"two that are down at each other's places", func(w *impl.World) { w.Nodes[4], w.Nodes[5] = down(5, true), down(4, true) }},
		{"nothing for a node", func(w *impl.World) { w.Nodes[1] = impl.Node{} }},
		{"nothing for the last node", func(w *impl.World) { w.Nodes[factMaxNode] = impl.Node{} }},
		{"Me below 0", func(w *impl.World) { w.Nodes[0].Me = -1 }},
		{"no sides", func(w *impl.World) { w.Sides = nil }},
		{"one side less", func(w *impl.World) { w.Sides = w.Sides[:factMaxNode] }},
		{"one side more", func(w *impl.World) { w.Sides = append(w.Sides, 0) }},
		{"one more under way than may be", func(w *impl.World) { w.Radio = filled(worldMaxRadio + 1) }},
		{"a text that is too long", func(w *impl.World) { w.Radio[4].Text = strings.Repeat("x", wordMaxText+1) }},
	}
	for _, me := range []int{0, 3, 6, 7} {
		list = append(list, gateNode(me, true), gateNode(me, false))
	}
	for what, n := range badNodes() {
		list = append(list, worldChange{what, func(w *impl.World) { w.Nodes[1] = n }})
	}
	for _, side := range []int{-1, 3, math.MinInt, math.MaxInt} {
		for _, node := range []int{0, factMaxNode} {
			list = append(list, worldChange{fmt.Sprint("node ", node, " on side ", side), func(w *impl.World) { w.Sides[node] = side }})
		}
	}
	for _, to := range []int{-1, factMaxNode + 1, math.MinInt, math.MaxInt} {
		for _, place := range []int{0, 4} {
			list = append(list, worldChange{fmt.Sprint("a word at ", place, " to ", to), func(w *impl.World) { w.Radio[place].To = to }})
		}
	}
	for _, f := range badFacts() {
		list = append(list, worldChange{fmt.Sprint("told ", f), func(w *impl.World) { w.Born = []impl.Fact{f} }})
		list = append(list, worldChange{fmt.Sprint("told last ", f), func(w *impl.World) { w.Born = []impl.Fact{fact(0, 0, isAlive), f} }})
	}
	for _, born := range [][]impl.Fact{
		{fact(2, 5, isAlive), fact(2, 5, isAlive)}, {gate(2, 5, isAlive), fact(2, 5, isAlive)}, {gate(2, 5, isSuspect), gate(2, 5, isAlive)},
		{fact(2, 6, isAlive), gate(2, 5, hasLeft)}, {fact(3, 0, isAlive), gate(2, 999, hasLeft)}, {fact(2, 5, isAlive), fact(3, 0, isAlive), fact(2, 6, isAlive)},
		{fact(0, 0, isAlive), fact(7, 1, isDead), fact(7, 1, isSuspect)},
	} {
		list = append(list, worldChange{fmt.Sprint("told ", born), func(w *impl.World) { w.Born = born }})
	}
	return list
}

func TestWorldOk(t *testing.T) {
	for _, c := range fineWorlds() {
		expect(t, c.what, impl.WorldOk(changedWorld(c)), true)
	}
	for _, c := range spoiltWorlds() {
		expect(t, c.what, impl.WorldOk(changedWorld(c)), false)
	}
	for _, w := range someWorlds(5101, 300) {
		expect(t, fmt.Sprint(w), impl.WorldOk(w), true)
	}
}

// What is not ok has one fixed answer, whatever is asked.
func TestWorldsThatAreNotOk(t *testing.T) {
	for _, c := range spoiltWorlds() {
		w := changedWorld(c)
		for kind := -1; kind <= doJoin+1; kind++ {
			for _, node := range []int{-1, 0, 1, factMaxNode, nodeCount} {
				after, could := impl.WorldDo(w, impl.Event{Kind: kind, Node: node, Draw: 1})
				expect(t, c.what, isNoWorld(after) && !could, true)
			}
		}
		for _, rounds := range []int{-1, 0, 3} {
			expect(t, c.what, isNoWorld(impl.WorldCalm(w, rounds)), true)
		}
		expect(t, c.what, impl.WorldSafe(w) || impl.WorldSame(w), false)
		expect(t, c.what, impl.WorldBoard(w), "")
	}
}

func TestWorldNew(t *testing.T) {
	w := impl.WorldNew()
	expect(t, "nodes", len(w.Nodes), nodeCount)
	for me, n := range w.Nodes {
		expect(t, fmt.Sprint(me), same(n, impl.NodeNew(me, mayGate(me))), true)
	}
	expect(t, "nothing is under way", len(w.Radio), 0)
	expectList(t, "all on one side", w.Sides, make([]int, nodeCount))
	expectList(t, "what each says of itself", w.Born, table("0:0:alive*,1:0:alive*,2:0:alive*,3:0:alive,4:0:alive*,5:0:alive*,6:0:alive*,7:0:alive"))
	expect(t, "ok", impl.WorldOk(w), true)
	expect(t, "safe", impl.WorldSafe(w), true)
	expect(t, "the same", impl.WorldSame(w), false)
	likePlayed(t, "the model's", newPlayed(), w)
}

func TestConstantsOfWorlds(t *testing.T) {
	expect(t, "radio", impl.WorldMaxRadio, worldMaxRadio)
	expect(t, "events", impl.WorldMaxEvent, worldMaxEvent)
	expect(t, "script", impl.ScriptMaxText, scriptMaxText)
	kinds := []int{impl.WorldTick, impl.WorldBring, impl.WorldLose, impl.WorldSpoil, impl.WorldSide, impl.WorldFall, impl.WorldRise, impl.WorldLeave, impl.WorldJoin}
	expectList(t, "kinds", kinds, []int{1, 2, 3, 4, 5, 6, 7, 8, 9})
}

// Who is up and there, who is gone, and who is down, by each kind at each node and one beyond.
func TestWhatCanBe(t *testing.T) {
	w := impl.WorldNew()
	w = does(t, w, impl.Event{Kind: doJoin, Node: 1, Draw: 0})
	w = does(t, w, impl.Event{Kind: doLeave, Node: 2})
	w = does(t, w, impl.Event{Kind: doFall, Node: 3})
	at := func(kind int, node int, draw int) impl.Event { return impl.Event{Kind: kind, Node: node, Draw: draw} }
	for _, e := range []impl.Event{
		at(doTick, 0, 3), at(doTick, factMaxNode, 3), at(doFall, 0, 0), at(doFall, 2, 0), at(doFall, factMaxNode, 0), at(doRise, 3, 0),
		at(doLeave, 0, 0), at(doLeave, factMaxNode, 0), at(doSide, 0, 0), at(doSide, 2, 1), at(doSide, 3, 1), at(doSide, factMaxNode, 1),
		at(doJoin, 0, 1), at(doJoin, 0, 3), at(doJoin, 3+1, factMaxNode), at(doJoin, factMaxNode, 4), at(doJoin, 0, 2),
		at(doBring, 0, 0), at(doLose, 0, 0), at(doSpoil, 0, 0),
	} {
		does(t, w, e)
	}
	for _, e := range []impl.Event{
		at(doTick, 2, 3), at(doTick, 3, 3), at(doFall, 3, 0), at(doRise, 0, 0), at(doRise, 2, 0), at(doRise, factMaxNode, 0),
		at(doLeave, 2, 0), at(doLeave, 3, 0), at(doJoin, 2, 0), at(doJoin, 3, 0),
		at(doJoin, 0, 0), at(doJoin, 0, 4), at(doJoin, 0, -1), at(doJoin, 4, 3), at(doJoin, factMaxNode, nodeCount), at(doJoin, factMaxNode, factMaxNode),
		at(doJoin, 0, math.MinInt), at(doJoin, 0, math.MaxInt), at(doBring, 1, 0), at(doLose, 1, 0), at(doSpoil, 1, 0), {},
	} {
		cannot(t, w, e)
	}
	for kind := doTick; kind <= doJoin; kind++ {
		for _, node := range []int{-1, nodeCount, math.MinInt, math.MaxInt} {
			for draw := range 2 {
				cannot(t, w, at(kind, node, draw))
			}
		}
	}
	for _, kind := range []int{0, -1, doJoin + 1, math.MinInt, math.MaxInt} {
		for node := range nodeCount {
			cannot(t, w, at(kind, node, 1))
		}
	}
}

func TestPlacesOfWords(t *testing.T) {
	w := plainWorld()
	w.Radio = nil
	for i := range 5 {
		w.Radio = append(w.Radio, impl.Flight{To: i, Text: fmt.Sprint("no word ", i)})
	}
	for _, kind := range []int{doBring, doLose, doSpoil} {
		for _, place := range []int{-1, 5, 6, math.MinInt, math.MaxInt} {
			cannot(t, w, impl.Event{Kind: kind, Node: place})
		}
	}
	for place := range w.Radio {
		left := slices.Delete(slices.Clone(w.Radio), place, place+1)
		expectList(t, "brought", does(t, w, impl.Event{Kind: doBring, Node: place}).Radio, left)
		expectList(t, "brought and kept", does(t, w, impl.Event{Kind: doBring, Node: place, Keep: true}).Radio, w.Radio)
		expectList(t, "lost", does(t, w, impl.Event{Kind: doLose, Node: place}).Radio, left)
		expectList(t, "lost, whatever Keep says", does(t, w, impl.Event{Kind: doLose, Node: place, Keep: true}).Radio, left)
		spoilt := slices.Clone(w.Radio)
		spoilt[place] = impl.Flight{To: place, Text: fmt.Sprint("oo word ", place), Spoil: true}
		expectList(t, "spoilt", does(t, w, impl.Event{Kind: doSpoil, Node: place}).Radio, spoilt)
	}
	w.Radio = nil
	for _, kind := range []int{doBring, doLose, doSpoil} {
		cannot(t, w, impl.Event{Kind: kind})
	}
}

func TestTickAtTheLastTicks(t *testing.T) {
	w := impl.WorldNew()
	w.Nodes[5].Now = nodeMaxNow - 1
	w = does(t, w, impl.Event{Kind: doTick, Node: 5, Draw: 3})
	expect(t, "now", w.Nodes[5].Now, nodeMaxNow)
	cannot(t, w, impl.Event{Kind: doTick, Node: 5, Draw: 3})
}

// spoiltBy is what a draw makes of a text under way.
func spoiltBy(t *testing.T, text string, draw int) string {
	t.Helper()
	w := impl.WorldNew()
	w.Radio = []impl.Flight{{To: 1, Text: text}}
	w = does(t, w, impl.Event{Kind: doSpoil, Draw: draw})
	if len(w.Radio) != 1 || w.Radio[0].To != 1 || !w.Radio[0].Spoil {
		t.Fatalf("%q is spoilt to %v", text, w.Radio)
	}
	return w.Radio[0].Text
}

func TestSpoil(t *testing.T) {
	for _, c := range []struct {
		text string
		draw int
		want string
	}{
		{"abc", 0, "`bc"}, {"abc", 1, "acc"}, {"abc", 2, "abb"}, {"abc", 3, "`bc"}, {"abc", 4, "acc"}, {"abc", 3001, "acc"},
		{"abc", 4095, "`bc"}, {"abc", 4096, "cbc"}, {"abc", 4097, "a`c"}, {"abc", 2 * 4096, "bbc"}, {"abc", 63*4096 + 2, "ab#"},
		{"abc", 127 * 4096, "\xe1bc"}, {"abc", 126*4096 + 1, "a\x1dc"}, {"abc", 128*4096 + 1, "acc"}, {"abc", math.MaxInt, "\xe1bc"},
		{"abc", -1, "\xe1bc"}, {"abc", -4096, "\xe1bc"}, {"abc", -4095, "a\xe2c"}, {"abc", -8192, "\x1ebc"}, {"abc", math.MinInt, "`bc"},
		{"x", 77, "y"}, {"\xff\x00", 1, "\xff\x01"}, {"\xff\x00", 127 * 4096, "\x7f\x00"}, {strings.Repeat("a", 300), 299, strings.Repeat("a", 299) + "`"},
		{strings.Repeat("a", 300), 300, "`" + strings.Repeat("a", 299)},
	} {
		expect(t, fmt.Sprintf("%q by %d", c.text, c.draw), spoiltBy(t, c.text, c.draw), c.want)
	}
	for by := range 128 {
		text := []byte("lan ping")
		text[5] ^= byte(by + 1)
		expect(t, fmt.Sprint("by ", by), spoiltBy(t, "lan ping", by*4096+5), string(text))
		expect(t, fmt.Sprint("by ", by, " from below 0"), spoiltBy(t, "lan ping", (by-128)*4096+13), string(text))
	}
	w := impl.WorldNew()
	w.Radio = []impl.Flight{{Text: ""}, {Text: "a", Spoil: true}, {Text: "a"}}
	cannot(t, w, impl.Event{Kind: doSpoil, Node: 0})
	cannot(t, w, impl.Event{Kind: doSpoil, Node: 1})
	w = does(t, w, impl.Event{Kind: doSpoil, Node: 2})
	cannot(t, w, impl.Event{Kind: doSpoil, Node: 2})
}

func TestSides(t *testing.T) {
	for node := range nodeCount {
		for draw, want := range map[int]int{math.MinInt: 0, -1: 0, 0: 0, 1: 1, 2: 2, 3: 2, math.MaxInt: 2} {
			for _, from := range []int{0, 2} {
				w := plainWorld()
				w.Sides[node] = from
				after := does(t, w, impl.Event{Kind: doSide, Node: node, Draw: draw})
				w.Sides[node] = want
				expect(t, fmt.Sprint(node, " by ", draw), sameWorld(after, w), true)
			}
		}
	}
}

// The word goes out before its answer is sent, so that there is room for that.
func TestSixtyWordsUnderWay(t *testing.T) {
	word := flightOf(told(syncKind, 0, 1, "0:0:alive*"))
	answer := impl.Word{Pool: lan, Kind: backKind, From: 1, To: 0, About: 1, Coord: impl.CoordNew(), Facts: table("0:0:alive*,1:0:alive*")}
	for _, many := range []int{worldMaxRadio - 2, worldMaxRadio - 1} {
		w := impl.WorldNew()
		w.Radio = append(filled(many), word)
		after := does(t, w, impl.Event{Kind: doBring, Node: many})
		expectList(t, fmt.Sprint("brought behind ", many), after.Radio, append(filled(many), flightOf(answer)))
		after = does(t, w, impl.Event{Kind: doBring, Node: many, Keep: true})
		want := append(filled(many), word)
		if many+1 < worldMaxRadio {
			want = append(want, flightOf(answer))
		}
		expectList(t, fmt.Sprint("brought and kept behind ", many), after.Radio, want)
		expect(t, "heard all the same", standing(after.Nodes[1], 0), isAlive)
	}
	// Of three words the first ones are sent, as long as there is room.
	w := impl.WorldNew()
	w.Nodes[0] = meets(0, "1:0:alive,2:0:alive,3:0:suspect")
	gone, words := impl.NodeLeave(w.Nodes[0])
	expect(t, "who is told", len(words), 3)
	for free := range 5 {
		w.Radio = filled(worldMaxRadio - free)
		want := slices.Clone(w.Radio)
		for _, word := range words[:min(free, 3)] {
			want = append(want, flightOf(word))
		}
		after := does(t, w, impl.Event{Kind: doLeave, Node: 0})
		expectList(t, fmt.Sprint(free, " free"), after.Radio, want)
		expect(t, "gone all the same", same(after.Nodes[0], gone), true)
	}
	// A tick, and a join, when there is no room.
	w = impl.WorldNew()
	w.Radio = filled(worldMaxRadio)
	after := does(t, w, impl.Event{Kind: doTick, Node: 0, Draw: 1})
	expect(t, "ticked", after.Nodes[0].Now == 1 && slices.Equal(after.Radio, w.Radio), true)
	expect(t, "joined", sameWorld(does(t, w, impl.Event{Kind: doJoin, Node: 0, Draw: 1}), w), true)
}

// What does not get to the other side takes no room there.
func TestWordsBetweenSides(t *testing.T) {
	w := impl.WorldNew()
	w.Nodes[0] = meets(0, "1:0:alive,2:0:alive,3:0:alive")
	w.Sides[1], w.Sides[3] = 1, 2
	w.Radio = filled(worldMaxRadio - 1)
	_, words := impl.NodeLeave(w.Nodes[0])
	after := does(t, w, impl.Event{Kind: doLeave, Node: 0})
	expectList(t, "only the one on its side is told", after.Radio, append(filled(worldMaxRadio-1), flightOf(words[1])))
	w.Sides[0] = 2
	after = does(t, w, impl.Event{Kind: doLeave, Node: 0})
	expectList(t, "on side 2", after.Radio, append(filled(worldMaxRadio-1), flightOf(words[2])))

	// A word under way when its sender, or who it is for, goes to another side is brought, and not heard.
	for _, node := range []int{0, 1} {
		w = impl.WorldNew()
		w = does(t, w, impl.Event{Kind: doJoin, Node: 1, Draw: 0})
		w = does(t, w, impl.Event{Kind: doSide, Node: node, Draw: 1})
		for _, keep := range []bool{false, true} {
			after = does(t, w, impl.Event{Kind: doBring, Keep: keep})
			expect(t, "nobody hears it", same(after.Nodes, w.Nodes) && len(after.Radio) == map[bool]int{true: 1}[keep], true)
		}
		// Both on the other side: it is heard.
		w = does(t, w, impl.Event{Kind: doSide, Node: 1 - node, Draw: 1})
		after = does(t, w, impl.Event{Kind: doBring})
		expect(t, "on one side again", standing(after.Nodes[0], 1), isAlive)
	}
	// A word to another site, too.
	w = impl.WorldNew()
	w.Sides[5] = 1
	w = does(t, w, impl.Event{Kind: doTick, Node: 0, Draw: 1 + 5<<5})
	expect(t, "not sent", len(w.Radio), 0)
	w = does(t, w, impl.Event{Kind: doTick, Node: 0, Draw: 1 + 6<<5})
	expect(t, "sent", len(w.Radio), 1)
	expect(t, "to", w.Radio[0].To, 6)
}

func TestWhatIsBrought(t *testing.T) {
	w := impl.WorldNew()
	good := flightOf(told(syncKind, 0, 1, "0:0:alive*"))
	heard := does(t, withRadio(w, good), impl.Event{Kind: doBring})
	expect(t, "heard", impl.TableText(heard.Nodes[1].Table), "0:0:alive*,1:0:alive*")
	spoilt := good
	spoilt.Spoil = true
	expect(t, "what can be read is heard, spoilt or not", sameWorld(does(t, withRadio(w, spoilt), impl.Event{Kind: doBring}), heard), true)
	other := good
	other.To = 2
	for what, f := range map[string]impl.Flight{
		"to another one than the flight": other, "empty": {To: 1}, "cut off": {To: 1, Text: good.Text[1:]}, "no word": {To: 1, Text: strings.Repeat("x", wordMaxText)},
		"from itself": flightOf(told(syncKind, 1, 1, "1:9:dead")), "from another site": flightOf(told(syncKind, 4, 1, "4:0:alive")),
		"a sum of the own site": flightOf(told(sumKind, 0, 1, "0:0:alive")),
	} {
		after := does(t, withRadio(w, f), impl.Event{Kind: doBring})
		expect(t, what, sameWorld(after, w), true)
		after = does(t, withRadio(w, f), impl.Event{Kind: doBring, Keep: true})
		expect(t, what, sameWorld(after, withRadio(w, f)), true)
	}
	for _, n := range []impl.Node{down(1, true), heard.Nodes[1]} {
		v := withRadio(w, good)
		v.Nodes[1] = n
		v.Nodes[1], _ = impl.NodeLeave(n)
		expect(t, "down, or gone", sameWorld(does(t, v, impl.Event{Kind: doBring}), withRadio(v)), true)
	}
}

func withRadio(w impl.World, flights ...impl.Flight) impl.World {
	w = copyWorld(w)
	w.Radio = flights
	return w
}

// toldFirst is what comes among Born, of a new world and what is known there, by an event.
func toldFirst(t *testing.T, w impl.World, e impl.Event) string {
	t.Helper()
	after := does(t, w, e)
	var first []impl.Fact
	for _, f := range after.Born {
		if !slices.Contains(w.Born, f) {
			first = append(first, f)
		}
	}
	for _, f := range w.Born {
		expect(t, fmt.Sprint(f, " stays"), slices.Contains(after.Born, f), true)
	}
	expect(t, "ok", impl.WorldOk(after), true)
	return impl.TableText(first)
}

func TestWhoTellsFirst(t *testing.T) {
	w := impl.WorldNew()
	bring, tick := impl.Event{Kind: doBring}, impl.Event{Kind: doTick, Draw: 3}
	hears := func(w impl.World, word impl.Word) string { return toldFirst(t, withRadio(w, flightOf(word)), bring) }

	expect(t, "what is heard of others was told by others", hears(w, told(backKind, 1, 0, "1:3:alive*,2:1:suspect*,3:2:dead")), "-")
	expect(t, "what is heard of oneself is answered", hears(w, told(backKind, 1, 0, "0:3:dead,1:3:alive*")), "0:4:alive*")
	expect(t, "of one who may not be a gateway", hears(w, told(backKind, 1, 3, "3:0:alive*")), "3:1:alive")
	expect(t, "from another site", hears(w, summary(wan, 4, 0, "0:3:left,2:8:suspect")), "0:4:alive*")
	expect(t, "of another site", hears(w, summary(wan, 4, 0, "4:3:left,5:8:suspect")), "-")
	expect(t, "by the last number", hears(w, told(backKind, 1, 0, "0:999:dead")), "-")

	asked := copyWorld(w)
	asked.Nodes[0] = meets(0, "1:5:alive*")
	asked.Nodes[0].Seq, asked.Nodes[0].Probe = 1, impl.Probe{Node: 1, Seq: 1}
	asked.Nodes[0].Now = probeTicks - 1
	expect(t, "one suspects", toldFirst(t, asked, tick), "1:5:suspect*")
	doubted := copyWorld(w)
	doubted.Nodes[0] = meets(0, "1:5:suspect*,2:7:suspect")
	doubted.Nodes[0].Doubts[1].Since = 1
	doubted.Nodes[0].Now = doubtTicks - 1
	expect(t, "one tells dead", toldFirst(t, doubted, tick), "1:5:dead*")
	doubted.Born = joinBorn(doubted.Born, gate(1, 5, isDead))
	expect(t, "another one told it before", toldFirst(t, doubted, tick), "-")

	expect(t, "who leaves", toldFirst(t, w, impl.Event{Kind: doLeave, Node: 3}), "3:0:left")
	fallen := does(t, w, impl.Event{Kind: doFall, Node: 3})
	expectList(t, "who falls says nothing", fallen.Born, w.Born)
	expect(t, "who rises again", toldFirst(t, fallen, impl.Event{Kind: doRise, Node: 3}), "-")
	fallen.Born = nil
	expect(t, "who rises, as nobody told it", toldFirst(t, fallen, impl.Event{Kind: doRise, Node: 3}), "3:0:alive")
	expect(t, "who joins says nothing", toldFirst(t, fallen, impl.Event{Kind: doJoin, Node: 0, Draw: 1}), "-")
	expect(t, "who ticks alone says nothing", toldFirst(t, fallen, tick), "-")
}

func joinBorn(born []impl.Fact, more ...impl.Fact) []impl.Fact {
	all := slices.Concat(born, more)
	sortBorn(all)
	return slices.Compact(all)
}

// Facts come among Born at their places: ahead of all, behind all, and between two of one node.
func TestBornIsInOrder(t *testing.T) {
	for _, born := range []string{"", "0:0:alive*", "0:9:dead*", "7:0:alive", "3:0:alive|3:0:suspect|3:0:dead|3:5:alive", "3:1:alive|3:1:left|3:3:alive|3:3:suspect"} {
		w := impl.WorldNew()
		w.Born = nil
		for _, text := range strings.Split(born, "|") {
			if text != "" {
				w.Born = append(w.Born, table(text)...)
			}
		}
		for node := range nodeCount {
			for inc := range 5 {
				word := told(backKind, mates(node)[0], node, "-")
				word.Facts = []impl.Fact{fact(node, inc, isSuspect)}
				after := does(t, withRadio(w, flightOf(word)), impl.Event{Kind: doBring})
				own := impl.Fact{Node: node, Inc: inc + 1, Is: isAlive, Gate: mayGate(node)}
				expectList(t, fmt.Sprint(own, " to ", w.Born), after.Born, joinBorn(w.Born, own))
			}
		}
	}
}

func TestWorldPlayOfTooMany(t *testing.T) {
	list := slices.Repeat([]impl.Event{{Kind: doTick, Node: 2, Draw: 3}}, worldMaxEvent+1)
	expect(t, "as many as may be", impl.WorldPlay(list[1:]).Nodes[2].Now, worldMaxEvent)
	expect(t, "one more", sameWorld(impl.WorldPlay(list), impl.WorldNew()), true)
	// Those that cannot be count, too.
	expect(t, "one more that cannot be", sameWorld(impl.WorldPlay(append(list[1:], impl.Event{})), impl.WorldNew()), true)
	expect(t, "none", sameWorld(impl.WorldPlay(nil), impl.WorldNew()), true)
	list[0], list[7] = impl.Event{}, impl.Event{Kind: doRise}
	expect(t, "but for two", impl.WorldPlay(list[:worldMaxEvent]).Nodes[2].Now, worldMaxEvent-2)
}

func TestHappensAsTheModel(t *testing.T) {
	d := &draws{5102}
	could := map[int]int{}
	for _, w := range someWorlds(5103, 1200) {
		for range 6 {
			e := drawEvent(d, len(w.Radio))
			p := playedOf(w)
			want := p.happens(e)
			after, can := impl.WorldDo(w, e)
			what := fmt.Sprintf("%+v in %+v", e, w)
			expect(t, what, can, want)
			likePlayed(t, what, p, after)
			if can {
				could[e.Kind]++
			}
		}
	}
	for kind := doTick; kind <= doJoin; kind++ {
		expect(t, fmt.Sprint("enough of ", kind, ": ", could[kind]), could[kind] > 20, true)
	}
}

func TestPlaysAsTheModel(t *testing.T) {
	for _, one := range allPlays() {
		p := newPlayed()
		for _, e := range one.list {
			p.happens(e)
		}
		likePlayed(t, fmt.Sprint(one.list), p, one.last)
	}
}
