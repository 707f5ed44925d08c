package tests

import (
	"slices"
	"strings"
	"sync"
	"testing"

	"loop.example/lightship/impl"
)

func sameWorld(v impl.World, w impl.World) bool {
	return same(v.Nodes, w.Nodes) && slices.Equal(v.Radio, w.Radio) && slices.Equal(v.Sides, w.Sides) && slices.Equal(v.Born, w.Born)
}

func isNoWorld(w impl.World) bool {
	return sameWorld(w, impl.World{})
}

// likePlayed holds that a world is what the model of it says.
func likePlayed(t *testing.T, what string, p *played, w impl.World) {
	t.Helper()
	if want := p.world(); !sameWorld(w, want) {
		t.Fatalf("%s:\ngot  %+v\nwant %+v", what, w, want)
	}
}

// copyWorld shares nothing with a world that goes on to be changed, but what the nodes keep.
func copyWorld(w impl.World) impl.World {
	return impl.World{Nodes: slices.Clone(w.Nodes), Radio: slices.Clone(w.Radio), Sides: slices.Clone(w.Sides), Born: slices.Clone(w.Born)}
}

func flightOf(w impl.Word) impl.Flight {
	return impl.Flight{To: w.To, Text: impl.WordWrite(w)}
}

// filled are so many words under way that say nothing.
func filled(many int) []impl.Flight {
	return slices.Repeat([]impl.Flight{{To: 0, Text: "x"}}, many)
}

// bornOf is all that the nodes of a world say, and all that must have been told ahead of it.
func bornOf(nodes []impl.Node) []impl.Fact {
	told := map[impl.Fact]int{}
	for _, n := range nodes {
		for _, f := range sees(n) {
			told[f]++
			for f.Is == isSuspect || f.Is == isDead {
				f.Is--
				told[f]++
			}
		}
	}
	var born []impl.Fact
	for f := range told {
		born = append(born, f)
	}
	sortBorn(born)
	return born
}

// plainWorld is safe, has something of everything, and stays ok when one of its parts becomes another one that is ok.
func plainWorld() impl.World {
	w := impl.WorldNew()
	w.Nodes[1] = plainNode()
	w.Nodes[2], _ = impl.NodeLeave(meets(2, "0:3:alive*,1:5:alive*"))
	w.Nodes[4] = down(4, true)
	w.Nodes[5] = meets(5, "6:0:alive*,7:1:suspect")
	w.Sides = []int{0, 0, 0, 1, 0, 0, 2, 0}
	w.Born = bornOf(w.Nodes)
	spoilt := flightOf(told(syncKind, 0, 1, "0:3:alive*"))
	spoilt.Text, spoilt.Spoil = strings.Replace(spoilt.Text, "sync", "synd", 1), true
	w.Radio = []impl.Flight{
		flightOf(told(syncKind, 0, 1, "0:4:alive*,1:5:dead*")), spoilt, flightOf(told(pingKind, 1, 3, "1:5:alive*")), {To: 7, Text: "?"}, {},
	}
	return w
}

// drawFlight is mostly a word such as its node takes; else it cannot be read, is for another one, or is spoilt.
func drawFlight(d *draws, nodes []impl.Node) impl.Flight {
	n := nodes[d.between(0, factMaxNode)]
	f := impl.Flight{To: n.Me, Text: impl.WordWrite(stir(d, drawFor(d, n)))}
	switch d.between(0, 15) {
	case 0:
		f.To = d.between(0, factMaxNode)
	case 1:
		f.Spoil = true
	case 2:
		f.Text = strings.Repeat("~", d.oneOf([]int{0, 1, 2, wordMaxText - 1, wordMaxText}))
	case 3:
		if len(f.Text) > 0 {
			f.Text, f.Spoil = f.Text[:len(f.Text)-1]+"!", true
		}
	}
	return f
}

// drawBorn holds mostly all that the nodes say, and facts besides.
func drawBorn(d *draws, nodes []impl.Node) []impl.Fact {
	if d.between(0, 9) == 0 {
		return nil
	}
	facts := map[impl.Fact]int{}
	for _, n := range nodes {
		for _, f := range sees(n) {
			if d.between(0, 9) > 0 {
				facts[f]++
			}
		}
	}
	for range d.between(0, 12) {
		facts[drawFact(d, d.between(0, factMaxNode))]++
	}
	var born []impl.Fact
	for f := range facts {
		born = append(born, f)
	}
	sortBorn(born)
	return born
}

// drawWorld is any world that is ok, whatever its nodes may have lived through.
func drawWorld(d *draws) impl.World {
	var w impl.World
	for me := range nodeCount {
		w.Nodes = append(w.Nodes, drawNodeAs(d, me, mayGate(me)))
		w.Sides = append(w.Sides, d.oneOf([]int{0, 0, 0, 0, 1, 2}))
	}
	for range d.oneOf([]int{0, 1, 2, 5, 12, worldMaxRadio - 2, worldMaxRadio - 1, worldMaxRadio}) {
		w.Radio = append(w.Radio, drawFlight(d, w.Nodes))
	}
	w.Born = drawBorn(d, w.Nodes)
	return w
}

func someWorlds(seed uint64, many int) []impl.World {
	d := &draws{seed}
	list := []impl.World{impl.WorldNew(), plainWorld()}
	for range many {
		list = append(list, drawWorld(d))
	}
	return list
}

// drawEvent is mostly such as can be in a world with some words under way.
func drawEvent(d *draws, words int) impl.Event {
	e := impl.Event{Kind: doTick, Node: d.between(0, factMaxNode), Draw: drawDraw(d)}
	place := d.oneOf([]int{0, 0, 0, 1, words - 1, d.between(0, max(words, 1)), words, -1})
	what := d.between(0, 99)
	switch {
	case what < 35:
	case what < 63:
		e = impl.Event{Kind: doBring, Node: place, Keep: d.between(0, 7) == 0}
	case what < 67:
		e = impl.Event{Kind: doLose, Node: place}
	case what < 70:
		e.Kind, e.Node = doSpoil, place
	case what < 73:
		e.Kind, e.Draw = doSide, d.oneOf([]int{-1, 0, 0, 0, 1, 2, 3})
	case what < 76:
		e.Kind = doFall
	case what < 83:
		e.Kind = doRise
	case what < 85:
		e.Kind = doLeave
	case what < 98:
		e.Kind, e.Draw = doJoin, d.oneOf(siteNodes(e.Node))
	case what == 98:
		e.Kind = d.oneOf([]int{-1, 0, doJoin + 1})
	default:
		e.Node = d.oneOf([]int{-1, factMaxNode + 1})
	}
	return e
}

func drawEvents(d *draws, many int) []impl.Event {
	var list []impl.Event
	for range many {
		list = append(list, drawEvent(d, 4))
	}
	return list
}

// play is what happened, the world behind it, and that behind a calm.
type play struct {
	list []impl.Event
	last impl.World
	calm impl.World
}

// allPlays are made once, as many promises are held against them.
var allPlays = sync.OnceValue(func() []play {
	d := &draws{5100}
	var list []play
	for range 260 {
		p := play{list: drawEvents(d, d.oneOf([]int{0, 5, 30, 100, 200, 300, worldMaxEvent, worldMaxEvent}))}
		p.last = impl.WorldPlay(p.list)
		p.calm = impl.WorldCalm(p.last, 40)
		list = append(list, p)
	}
	return list
})

// isManned says whether each site has one who is there and may be a gateway.
func isManned(w impl.World) bool {
	var manned [2]bool
	for _, n := range w.Nodes {
		if isIn(n) && mayGate(n.Me) {
			manned[n.Me/siteSize] = true
		}
	}
	return manned[0] && manned[1]
}

// does is for what must be able to happen.
func does(t *testing.T, w impl.World, e impl.Event) impl.World {
	t.Helper()
	after, could := impl.WorldDo(w, e)
	if !could {
		t.Fatalf("%v cannot be in %+v", e, w)
	}
	return after
}

// cannot holds that something cannot be, and leaves all as it is.
func cannot(t *testing.T, w impl.World, e impl.Event) {
	t.Helper()
	after, could := impl.WorldDo(w, e)
	if could || !sameWorld(after, w) {
		t.Fatalf("%v is %v in %+v, which is then %+v", e, could, w, after)
	}
}
