package tests

import (
	"fmt"
	"slices"
	"testing"

	"loop.example/lightship/impl"
)

const nodeCount = factMaxNode + 1

type modelDoubt struct {
	since int
	by    [nodeCount]bool
}

// model is a node kept in another way than the program keeps it: in arrays, with a place for each node of all sites.
type model struct {
	plain impl.Node // all that is no list
	facts [nodeCount]impl.Fact
	items [nodeCount]impl.Item
	doubt [nodeCount]modelDoubt
	place [nodeCount]impl.Place
	words []impl.Word
}

func modelOf(n impl.Node) *model {
	m := &model{plain: n}
	for _, f := range n.Table {
		m.facts[f.Node] = f
	}
	for _, i := range n.Cast {
		m.items[i.Fact.Node] = i
	}
	for _, d := range n.Doubts {
		m.doubt[d.Node].since = d.Since
		for _, by := range d.By {
			m.doubt[d.Node].by[by] = true
		}
	}
	for _, p := range n.Places {
		m.place[p.Node] = impl.Place{Node: p.Node, Coord: p.Coord, Trips: slices.Clone(p.Trips)}
	}
	for _, o := range n.Others {
		for _, f := range o.Facts {
			m.facts[f.Node] = f
		}
	}
	return m
}

func (m *model) known(nodes []int) []impl.Fact {
	var t []impl.Fact
	for _, node := range nodes {
		if m.facts[node].Is != 0 {
			t = append(t, m.facts[node])
		}
	}
	return t
}

func (m *model) table() []impl.Fact {
	return m.known(siteNodes(m.plain.Me))
}

func (m *model) cast() []impl.Item {
	return slices.DeleteFunc(slices.Clone(m.items[:]), func(i impl.Item) bool { return i.Left == 0 })
}

func (d modelDoubt) list() []int {
	var by []int
	for node, does := range d.by {
		if does {
			by = append(by, node)
		}
	}
	return by
}

// node is the model as the program has it; doubts are read off who is suspected.
func (m *model) node() impl.Node {
	n := m.plain
	n.Table, n.Cast, n.Doubts, n.Places, n.Others = m.table(), m.cast(), nil, nil, nil
	for _, f := range n.Table {
		if f.Is == isSuspect {
			n.Doubts = append(n.Doubts, impl.Doubt{Node: f.Node, Inc: f.Inc, Since: m.doubt[f.Node].since, By: m.doubt[f.Node].list()})
		}
	}
	for _, p := range m.place {
		if p.Trips != nil {
			n.Places = append(n.Places, p)
		}
	}
	if facts := m.known(siteNodes(factMaxNode - n.Me)); facts != nil {
		n.Others = []impl.Foreign{{Site: 1 - n.Me/siteSize, Facts: facts}}
	}
	return n
}

func (m *model) says(f impl.Fact, by int) {
	was := m.facts[f.Node]
	if was.Is != 0 && factRank(f) <= factRank(was) {
		return
	}
	m.facts[f.Node] = f
	m.items[f.Node] = item(f, castTimes)
	if was.Is == f.Is && was.Inc == f.Inc {
		return
	}
	m.doubt[f.Node] = modelDoubt{since: m.plain.Now}
	m.doubt[f.Node].by[by] = true
}

func (m *model) tells(to int) []impl.Fact {
	facts, left := takeOneByOne(m.cast(), castMost)
	m.items = [nodeCount]impl.Item{}
	for _, i := range left {
		m.items[i.Fact.Node] = i
	}
	if m.facts[to].Is == isSuspect {
		facts = joinByRank(withoutNode(facts, to), []impl.Fact{m.facts[to]})
	}
	return facts
}

func (m *model) sends(pool int, kind int, to int, seq int, about int, facts []impl.Fact) {
	m.words = append(m.words, impl.Word{
		Pool: pool, Kind: kind, From: m.plain.Me, To: to, Seq: seq, About: about, Coord: m.plain.Coord, Facts: facts,
	})
}

func (m *model) lives(node int) bool {
	return m.facts[node].Is == isAlive || m.facts[node].Is == isSuspect
}

func (m *model) ticks(draw int) {
	n := &m.plain
	n.Now++
	for _, node := range siteNodes(n.Me) {
		d := m.doubt[node]
		if m.facts[node].Is == isSuspect && n.Now-d.since >= patience(len(d.list())) {
			m.says(impl.Fact{Node: node, Inc: m.facts[node].Inc, Is: isDead, Gate: m.facts[node].Gate}, n.Me)
		}
	}
	if n.Probe.Node != -1 {
		m.tendsProbe()
	}
	if n.Probe.Node == -1 && n.Seq < nodeMaxNow {
		m.probes()
	}
	m.gossips(draw)
}

func (m *model) tendsProbe() {
	n := &m.plain
	asked := n.Probe.Node
	ago := n.Now - n.Probe.Since
	if !m.lives(asked) || ago >= probeTicks {
		n.Probe = impl.Probe{Node: -1}
	}
	if m.facts[asked].Is == isAlive && ago >= probeTicks {
		m.says(impl.Fact{Node: asked, Inc: m.facts[asked].Inc, Is: isSuspect, Gate: m.facts[asked].Gate}, n.Me)
	}
	if n.Probe.Node == -1 || ago < askTicks || n.Probe.Asked {
		return
	}
	n.Probe.Asked = true
	sent := 0
	for _, node := range mates(n.Me) {
		if node != asked && m.facts[node].Is == isAlive && sent < 2 {
			m.sends(lan, askKind, node, n.Probe.Seq, asked, nil)
			sent++
		}
	}
}

func (m *model) probes() {
	n := &m.plain
	var rest, first []int
	for _, node := range mates(n.Me) {
		switch {
		case !m.lives(node):
		case node >= n.Turn:
			first = append(first, node)
		default:
			rest = append(rest, node)
		}
	}
	if turn := append(first, rest...); len(turn) > 0 {
		n.Turn = turn[0] + 1
		n.Seq++
		n.Probe = impl.Probe{Node: turn[0], Since: n.Now, Seq: n.Seq}
		m.sends(lan, pingKind, turn[0], n.Seq, n.Me, m.tells(turn[0]))
	}
}

// bitsOf are so many bits of a draw, from a place on.
func bitsOf(draw int, from int, many int) int {
	return int(uint64(draw) >> from & (1<<many - 1))
}

func (m *model) gossips(draw int) {
	n := &m.plain
	var there, gates, far []int
	for _, node := range mates(n.Me) {
		if m.facts[node].Is != 0 && m.facts[node].Is != hasLeft {
			there = append(there, node)
		}
	}
	for node, f := range m.facts {
		if f.Is == isAlive && f.Gate && node/siteSize == n.Me/siteSize {
			gates = append(gates, node)
		} else if f.Is == isAlive && f.Gate {
			far = append(far, node)
		}
	}
	away := siteNodes(factMaxNode - n.Me)
	others := m.known(away)
	switch {
	case draw&3 == 0 && there != nil:
		m.sends(lan, syncKind, there[bitsOf(draw, 2, 8)%len(there)], 0, n.Me, m.table())
	case draw&3 == 1 && slices.Contains(gates[:min(len(gates), gateCount)], n.Me):
		to := away[bitsOf(draw, 5, 2)]
		if far = far[:min(len(far), gateCount)]; len(far) > 0 && bitsOf(draw, 4, 1) == 0 {
			to = far[bitsOf(draw, 5, 8)%len(far)]
		}
		m.sends(wan, sumKind, to, 0, n.Me, m.table())
	case draw&3 == 2 && there != nil && others != nil:
		m.sends(lan, sumKind, there[bitsOf(draw, 2, 8)%len(there)], 0, n.Me, others)
	}
}

func (m *model) takes(w impl.Word) bool {
	n := m.plain
	site := n.Me / siteSize
	if !isIn(n) || !impl.WordOk(w) || w.To != n.Me || w.From == n.Me {
		return false
	}
	if w.Pool == wan {
		return w.Kind == sumKind && w.From/siteSize != site
	}
	return w.From/siteSize == site && (w.Kind != sumKind || w.Facts[0].Node/siteSize != site)
}

func (m *model) hears(w impl.Word) {
	if w.Kind == sumKind && w.Facts[0].Node/siteSize != m.plain.Me/siteSize {
		all := joinByRank(m.known(siteNodes(w.Facts[0].Node)), w.Facts)
		for _, f := range all {
			m.facts[f.Node] = f
		}
		if w.Pool == wan && !slices.Equal(all, w.Facts) {
			m.sends(wan, sumKind, w.From, 0, m.plain.Me, all)
		}
		return
	}
	by := w.From
	if w.Kind == sumKind {
		by = m.plain.Me
	}
	for _, f := range w.Facts {
		m.learns(f, by)
	}
	m.answers(w)
}

func (m *model) learns(f impl.Fact, by int) {
	n := &m.plain
	if f.Node != n.Me {
		m.says(f, by)
		if f.Is == isSuspect && m.facts[f.Node].Is == isSuspect && m.facts[f.Node].Inc == f.Inc {
			m.doubt[f.Node].by[by] = true
		}
	} else if factRank(f) > factRank(m.facts[n.Me]) && f.Inc != factMaxInc {
		n.Inc = f.Inc + 1
		m.says(impl.Fact{Node: n.Me, Inc: n.Inc, Is: isAlive, Gate: n.Gate}, n.Me)
	}
}

func (m *model) answers(w impl.Word) {
	n := &m.plain
	third := w.About != n.Me && w.About/siteSize == n.Me/siteSize
	switch {
	case w.Kind == pingKind && third:
		m.sends(lan, ackKind, w.About, w.Seq, n.Me, m.tells(w.About))
	case w.Kind == askKind && third && w.About != w.From:
		m.sends(lan, pingKind, w.About, w.Seq, w.From, m.tells(w.About))
	case w.Kind == syncKind:
		m.sends(lan, backKind, w.From, 0, n.Me, m.table())
	case w.Kind == ackKind && n.Probe.Node == w.From && n.Probe.Seq == w.Seq && w.About == w.From:
		trips := append(m.place[w.From].Trips, min(1000*(n.Now-n.Probe.Since)+500, coordMaxTrip))
		if len(trips) > coordKeep {
			trips = trips[1:]
		}
		m.place[w.From] = impl.Place{Node: w.From, Coord: w.Coord, Trips: trips}
		middle := slices.Sorted(slices.Values(trips))[(len(trips)-1)/2]
		n.Coord = impl.CoordMove(n.Coord, w.Coord, middle, w.Seq)
		n.Probe = impl.Probe{Node: -1}
	}
}

// likeModel holds that a node, and what it sends, is what the model says.
func likeModel(t *testing.T, what string, m *model, n impl.Node, words []impl.Word) {
	t.Helper()
	if want := m.node(); !same(n, want) || !same(words, m.words) {
		t.Fatalf("%s:\ngot  %v\nwant %v\nsent %v\nwant %v", what, n, want, words, m.words)
	}
}

func TestTicksAsTheModel(t *testing.T) {
	d := &draws{2101}
	for _, n := range someNodes(2102, 30000) {
		draw := drawDraw(d)
		m := modelOf(n)
		if isIn(n) && n.Now < nodeMaxNow {
			m.ticks(draw)
		}
		after, words := impl.NodeTick(n, draw)
		likeModel(t, fmt.Sprint("tick ", draw, " of ", n), m, after, words)
	}
}

func TestHearsAsTheModel(t *testing.T) {
	taken := 0
	for _, h := range someHeard(2201, 60000) {
		m := modelOf(h.Node)
		takes := m.takes(h.Word)
		if takes {
			taken++
			m.hears(h.Word)
		}
		what := fmt.Sprint(h.Word, " heard by ", h.Node)
		expect(t, what, impl.NodeTakes(h.Node, h.Word), takes)
		after, words := impl.NodeHear(h.Node, h.Word)
		likeModel(t, what, m, after, words)
	}
	expect(t, "enough of them are taken", taken > 30000, true)
}

// One node goes on for long, so that what one step leaves behind is met by the next one.
func TestLivesAsTheModel(t *testing.T) {
	d := &draws{2103}
	for range 150 {
		n := impl.NodeNew(d.between(0, factMaxNode), d.between(0, 1) == 1)
		for range 150 {
			m := modelOf(n)
			var words []impl.Word
			if w := drawFor(d, n); d.between(0, 2) > 0 && m.takes(w) {
				m.hears(w)
				n, words = impl.NodeHear(n, w)
			} else {
				draw := drawDraw(d)
				m.ticks(draw)
				n, words = impl.NodeTick(n, draw)
			}
			likeModel(t, "a life", m, n, words)
		}
	}
}
