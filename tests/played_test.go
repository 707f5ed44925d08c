package tests

import (
	"cmp"
	"fmt"
	"regexp"
	"slices"
	"strconv"
	"strings"

	"loop.example/lightship/impl"
)

const (
	worldMaxRadio = 60
	worldMaxEvent = 400
)

const (
	doTick  = 1
	doBring = 2
	doLose  = 3
	doSpoil = 4
	doSide  = 5
	doFall  = 6
	doRise  = 7
	doLeave = 8
	doJoin  = 9
)

var doTexts = []string{"", "tick", "bring", "lose", "spoil", "side", "fall", "rise", "leave", "join"}

// played is a world kept in another way than the program keeps it: what happens is written into it, and Born is a set.
type played struct {
	nodes [nodeCount]impl.Node
	radio []impl.Flight
	sides [nodeCount]int
	born  map[impl.Fact]int
}

func mayGate(node int) bool {
	return node != 3 && node != 7
}

func newPlayed() *played {
	p := &played{born: map[impl.Fact]int{}}
	for me := range p.nodes {
		p.becomes(impl.NodeNew(me, mayGate(me)), nil, nil)
	}
	return p
}

func playedOf(w impl.World) *played {
	p := &played{radio: slices.Clone(w.Radio), born: map[impl.Fact]int{}}
	copy(p.nodes[:], w.Nodes)
	copy(p.sides[:], w.Sides)
	for _, f := range w.Born {
		p.born[f]++
	}
	return p
}

func sortBorn(born []impl.Fact) {
	slices.SortFunc(born, func(f impl.Fact, g impl.Fact) int {
		return cmp.Or(cmp.Compare(f.Node, g.Node), cmp.Compare(factRank(f), factRank(g)))
	})
}

func (p *played) world() impl.World {
	w := impl.World{Nodes: slices.Clone(p.nodes[:]), Radio: slices.Clone(p.radio), Sides: slices.Clone(p.sides[:])}
	for f := range p.born {
		w.Born = append(w.Born, f)
	}
	sortBorn(w.Born)
	return w
}

func (p *played) send(words []impl.Word) {
	for _, w := range words {
		if len(p.radio) < worldMaxRadio && p.sides[w.From] == p.sides[w.To] {
			p.radio = append(p.radio, impl.Flight{To: w.To, Text: impl.WordWrite(w)})
		}
	}
}

func (p *played) becomes(n impl.Node, words []impl.Word, heard []impl.Fact) {
	for _, f := range n.Table {
		if factOf(p.nodes[n.Me].Table, f.Node) != f && factOf(heard, f.Node) != f {
			p.born[f]++
		}
	}
	p.nodes[n.Me] = n
	p.send(words)
}

func (p *played) tick(node int, draw int) {
	after, words := impl.NodeTick(p.nodes[node], draw)
	p.becomes(after, words, nil)
}

func (p *played) join(node int, to int) {
	_, words := impl.NodeJoin(p.nodes[node], to)
	p.send(words)
}

func (p *played) lose(place int) {
	p.radio = slices.Delete(p.radio, place, place+1)
}

func (p *played) bring(place int, keep bool) {
	f := p.radio[place]
	if !keep {
		p.lose(place)
	}
	w, ok := impl.WordRead(f.Text)
	if ok && w.To == f.To && p.sides[w.From] == p.sides[w.To] {
		after, words := impl.NodeHear(p.nodes[w.To], w)
		p.becomes(after, words, w.Facts)
	}
}

// spoil takes the bits of a draw one by one, as they stand in it.
func (p *played) spoil(place int, draw int) {
	f := &p.radio[place]
	at := bitsOf(draw, 0, 12) % len(f.Text)
	other := f.Text[at] ^ byte(bitsOf(draw, 12, 7)+1)
	f.Text = f.Text[:at] + string([]byte{other}) + f.Text[at+1:]
	f.Spoil = true
}

// happens says whether what is asked for can be, and does it.
func (p *played) happens(e impl.Event) bool {
	var n impl.Node
	isNode := 0 <= e.Node && e.Node < nodeCount
	if isNode {
		n = p.nodes[e.Node]
	}
	isWord := 0 <= e.Node && e.Node < len(p.radio)
	switch {
	case e.Kind == doTick && isIn(n) && n.Now < nodeMaxNow:
		p.tick(e.Node, e.Draw)
	case e.Kind == doBring && isWord:
		p.bring(e.Node, e.Keep)
	case e.Kind == doLose && isWord:
		p.lose(e.Node)
	case e.Kind == doSpoil && isWord && p.radio[e.Node].Text != "" && !p.radio[e.Node].Spoil:
		p.spoil(e.Node, e.Draw)
	case e.Kind == doSide && isNode:
		p.sides[e.Node] = max(0, min(2, e.Draw))
	case e.Kind == doFall && n.Up:
		p.nodes[e.Node] = down(e.Node, mayGate(e.Node))
	case e.Kind == doRise && isNode && !n.Up:
		p.becomes(impl.NodeNew(e.Node, mayGate(e.Node)), nil, nil)
	case e.Kind == doLeave && isIn(n):
		after, words := impl.NodeLeave(n)
		p.becomes(after, words, nil)
	case e.Kind == doJoin && isIn(n) && slices.Contains(mates(e.Node), e.Draw):
		p.join(e.Node, e.Draw)
	default:
		return false
	}
	return true
}

func (p *played) bringAll() {
	for len(p.radio) > 0 {
		p.bring(0, false)
	}
}

func (p *played) calm(rounds int) {
	p.sides = [nodeCount]int{}
	p.bringAll()
	for a := range p.nodes {
		for b := range a {
			if a/siteSize == b/siteSize && isIn(p.nodes[a]) && isIn(p.nodes[b]) {
				p.join(a, b)
				p.bringAll()
			}
		}
	}
	for round := range min(max(rounds, 0), 60) {
		for node, n := range p.nodes {
			if isIn(n) && n.Now < nodeMaxNow {
				p.tick(node, 5*round)
				p.bringAll()
			}
		}
	}
}

// sees is what a node sees, by the order of all nodes.
func sees(n impl.Node) []impl.Fact {
	return slices.Concat(knownOf(n, 0), knownOf(n, 1))
}

func (p *played) safe() bool {
	for _, n := range p.nodes {
		for _, f := range sees(n) {
			if p.born[f] == 0 {
				return false
			}
		}
	}
	for f := range p.born {
		before := impl.Fact{Node: f.Node, Inc: f.Inc, Is: f.Is - 1, Gate: f.Gate}
		if (f.Is == isSuspect || f.Is == isDead) && p.born[before] == 0 {
			return false
		}
	}
	return true
}

func (p *played) same() bool {
	var views [][]impl.Fact
	var there []int
	for me, n := range p.nodes {
		if isIn(n) {
			views = append(views, sees(n))
			there = append(there, me)
		}
	}
	for _, view := range views {
		living := slices.DeleteFunc(slices.Clone(view), func(f impl.Fact) bool { return f.Is != isAlive })
		if !slices.Equal(view, views[0]) || !slices.Equal(nodesOf(living), there) {
			return false
		}
	}
	return true
}

func (p *played) board() string {
	text := fmt.Sprintf("%d under way, %d told\n", len(p.radio), len(p.born))
	for me, n := range p.nodes {
		if !n.Up {
			text += fmt.Sprintf("node %d down\n", me)
			continue
		}
		left := map[bool]string{true: " left"}[n.Gone]
		text += fmt.Sprintf("node %d%s now %d inc %d at %d,%d+%d table %s", me, left, n.Now, n.Inc, n.Coord.X, n.Coord.Y, n.Coord.H, tableByHand(n.Table))
		for _, o := range n.Others {
			text += fmt.Sprintf(" site %d %s", o.Site, tableByHand(o.Facts))
		}
		text += "\n"
	}
	return text
}

var (
	calmForm  = regexp.MustCompile(`^calm ([0-9]|[1-5][0-9]|60)$`)
	eventForm = regexp.MustCompile(`^(tick|bring|lose|spoil|side|fall|rise|leave|join) (0|[1-9][0-9]{0,5})( (?:0|[1-9][0-9]{0,5}))?$`)
	keepForm  = regexp.MustCompile(`^bring (0|[1-9][0-9]{0,5}) keep$`)
)

// eventByForm says in another way than the program what a line of a session asks for.
func eventByForm(line string) (impl.Event, bool) {
	if parts := keepForm.FindStringSubmatch(line); parts != nil {
		node, _ := strconv.Atoi(parts[1])
		return impl.Event{Kind: doBring, Node: node, Keep: true}, true
	}
	parts := eventForm.FindStringSubmatch(line)
	if parts == nil {
		return impl.Event{}, false
	}
	node, _ := strconv.Atoi(parts[2])
	draw, _ := strconv.Atoi(strings.TrimSpace(parts[3]))
	return impl.Event{Kind: slices.Index(doTexts, parts[1]), Node: node, Draw: draw}, true
}

func (p *played) session(lines []string) string {
	text := ""
	for _, line := range lines {
		parts := calmForm.FindStringSubmatch(line)
		e, isEvent := eventByForm(line)
		switch {
		case parts != nil:
			rounds, _ := strconv.Atoi(parts[1])
			p.calm(rounds)
			text += map[bool]string{true: "all see the same\n", false: "not all see the same\n"}[p.same()]
		case !isEvent:
			text += "what\n"
		case !p.happens(e):
			text += "no\n"
		}
	}
	return text + p.board()
}
