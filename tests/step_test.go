package tests

import (
	"fmt"
	"slices"
	"sync"
	"testing"

	"loop.example/lightship/impl"
)

// step is what one node does: at a tick, by a draw, or by a word that it hears.
type step struct {
	before impl.Node
	after  impl.Node
	words  []impl.Word
	heard  impl.Word
	hears  bool
	draw   int
}

func (s step) String() string {
	if s.hears {
		return fmt.Sprint(s.before, " heard ", s.heard)
	}
	return fmt.Sprint(s.before, " ticked by ", s.draw)
}

func ticking(n impl.Node, draw int) step {
	after, words := impl.NodeTick(n, draw)
	return step{before: n, after: after, words: words, draw: draw}
}

func hearing(n impl.Node, w impl.Word) step {
	after, words := impl.NodeHear(n, w)
	return step{before: n, after: after, words: words, heard: w, hears: true}
}

// playedSteps are those of worlds in which words are lost, doubled and late, and nodes fall, rise and leave.
func playedSteps(seed uint64, events int) []step {
	d := &draws{seed}
	p := newPlayed()
	var list []step
	does := func(s step) {
		list = append(list, s)
		p.becomes(s.after, s.words, s.heard.Facts)
	}
	for range events {
		node := d.between(0, factMaxNode)
		what := d.between(0, 99)
		switch {
		case what < 35 && isIn(p.nodes[node]):
			does(ticking(p.nodes[node], drawDraw(d)))
		case what < 80 && len(p.radio) > 0:
			place := d.between(0, min(len(p.radio)-1, 3))
			w, ok := impl.WordRead(p.radio[place].Text)
			if what < 75 {
				p.radio = slices.Delete(p.radio, place, place+1)
			}
			if ok {
				does(hearing(p.nodes[w.To], w))
			}
		case what < 88 && len(p.radio) > 0:
			p.radio = p.radio[1:]
		case what < 94:
			p.join(node, d.between(0, factMaxNode))
		case what < 96:
			p.nodes[node] = down(node, p.nodes[node].Gate)
		case what < 99 && !p.nodes[node].Up:
			p.nodes[node] = impl.NodeNew(node, p.nodes[node].Gate)
		case what == 99 && d.between(0, 3) == 0:
			after, words := impl.NodeLeave(p.nodes[node])
			p.nodes[node] = after
			p.send(words)
		}
	}
	return list
}

// allSteps are made once, as many promises are held against them.
var allSteps = sync.OnceValue(func() []step {
	var list []step
	d := &draws{2190}
	for _, n := range someNodes(2191, 12000) {
		list = append(list, ticking(n, drawDraw(d)))
	}
	for _, h := range someHeard(2290, 16000) {
		list = append(list, hearing(h.Node, h.Word))
	}
	for seed := range uint64(12) {
		list = append(list, playedSteps(2300+seed, 1200)...)
	}
	return list
})

func (s step) takes() bool {
	return s.hears && impl.NodeTakes(s.before, s.heard)
}

// eachStep fails at the first step that breaks something, as a list of thousands says no more.
func eachStep(t *testing.T, holds func(s step) string) {
	t.Helper()
	for _, s := range allSteps() {
		if broken := holds(s); broken != "" {
			t.Fatalf("%s\n%v\nbecame\n%v\nand sent %v", broken, s, s.after, s.words)
		}
	}
}

func broken(isSo bool, what string) string {
	if isSo {
		return what
	}
	return ""
}
