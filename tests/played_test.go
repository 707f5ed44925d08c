package tests

import (
	"fmt"
	"slices"
	"strings"
	"testing"

	"loop.example/lightship/impl"
)

// flight is a word under way, as a text.
type flight struct {
	to   int
	text string
}

// played is a small world of these tests' own, in which nodes hear each other as the document's chapters 51 and 52 say.
type played struct {
	nodes [factMaxNode + 1]impl.Node
	radio []flight
	sides [factMaxNode + 1]int
}

func newPlayed() *played {
	p := &played{}
	for me := range p.nodes {
		p.nodes[me] = impl.NodeNew(me, me%siteSize != siteSize-1)
	}
	return p
}

func (p *played) send(words []impl.Word) {
	for _, w := range words {
		if len(p.radio) < 60 && p.sides[w.From] == p.sides[w.To] {
			p.radio = append(p.radio, flight{w.To, impl.WordWrite(w)})
		}
	}
}

func (p *played) tick(node int, draw int) {
	var words []impl.Word
	p.nodes[node], words = impl.NodeTick(p.nodes[node], draw)
	p.send(words)
}

func (p *played) join(node int, to int) {
	_, words := impl.NodeJoin(p.nodes[node], to)
	p.send(words)
}

func (p *played) bring(place int) {
	f := p.radio[place]
	p.radio = slices.Delete(p.radio, place, place+1)
	w, ok := impl.WordRead(f.text)
	if !ok || w.To != f.to || p.sides[w.From] != p.sides[w.To] {
		return
	}
	var words []impl.Word
	p.nodes[w.To], words = impl.NodeHear(p.nodes[w.To], w)
	p.send(words)
}

func (p *played) bringAll() {
	for n := 0; n < 3000 && len(p.radio) > 0; n++ {
		p.bring(0)
	}
}

func (p *played) isIn(node int) bool {
	return p.nodes[node].Up && !p.nodes[node].Gone
}

func (p *played) calm(rounds int) {
	p.sides = [factMaxNode + 1]int{}
	p.bringAll()
	for a := range p.nodes {
		for b := range a {
			if a/siteSize == b/siteSize && p.isIn(a) && p.isIn(b) {
				p.join(a, b)
				p.bringAll()
			}
		}
	}
	for round := range rounds {
		for node := range p.nodes {
			if p.isIn(node) {
				p.tick(node, 5*round)
				p.bringAll()
			}
		}
	}
}

func (p *played) board() string {
	var lines []string
	for _, n := range p.nodes {
		if !n.Up {
			lines = append(lines, fmt.Sprintf("node %d down", n.Me))
			continue
		}
		line := fmt.Sprintf("node %d now %d inc %d at %d,%d+%d table %s", n.Me, n.Now, n.Inc, n.Coord.X, n.Coord.Y, n.Coord.H, tableByHand(n.Table))
		for _, o := range n.Others {
			line += fmt.Sprintf(" site %d %s", o.Site, tableByHand(o.Facts))
		}
		lines = append(lines, line)
	}
	return strings.Join(lines, "\n")
}

// The example of the document's chapter 53, as far as it is of nodes.
func TestNodesOfTheDocumentsExample(t *testing.T) {
	p := newPlayed()
	p.join(1, 0)
	p.bring(0)
	p.bring(0)
	p.tick(0, 3)
	// What was spoilt and brought says nothing.
	p.radio = p.radio[1:]
	p.tick(1, 0)
	p.sides[1] = 1
	p.bring(0)
	p.nodes[3] = impl.Node{Me: 3}
	p.calm(3)
	p.calm(40)
	expect(t, "all nodes", p.board(), strings.Join([]string{
		"node 0 now 44 inc 0 at 0,284+71 table 0:0:alive*,1:0:alive*,2:0:alive* site 1 4:0:alive*,5:0:alive*,6:0:alive*,7:0:alive",
		"node 1 now 44 inc 0 at 0,-197+50 table 0:0:alive*,1:0:alive*,2:0:alive* site 1 4:0:alive*,5:0:alive*,6:0:alive*,7:0:alive",
		"node 2 now 43 inc 0 at 0,58+132 table 0:0:alive*,1:0:alive*,2:0:alive* site 1 4:0:alive*,5:0:alive*,6:0:alive*,7:0:alive",
		"node 3 down",
		"node 4 now 43 inc 0 at -29,232+57 table 4:0:alive*,5:0:alive*,6:0:alive*,7:0:alive site 0 0:0:alive*,1:0:alive*,2:0:alive*",
		"node 5 now 43 inc 0 at -212,-72+65 table 4:0:alive*,5:0:alive*,6:0:alive*,7:0:alive site 0 0:0:alive*,1:0:alive*,2:0:alive*",
		"node 6 now 43 inc 0 at 73,-207+76 table 4:0:alive*,5:0:alive*,6:0:alive*,7:0:alive site 0 0:0:alive*,1:0:alive*,2:0:alive*",
		"node 7 now 43 inc 0 at 150,14+114 table 4:0:alive*,5:0:alive*,6:0:alive*,7:0:alive site 0 0:0:alive*,1:0:alive*,2:0:alive*",
	}, "\n"))
}
