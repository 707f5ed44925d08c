package impl

import "slices"

// Limits of a calm: how many words are brought at a time, so that it ends whatever is under way, and how many rounds it has.
const (
	calmMostWords  = 3000
	calmMostRounds = 60
)

func (s *scene) bringAll() {
bringing:
	for range calmMostWords {
		switch s.radio.size {
		case 0:
			break bringing
		default:
			s.do(Event{Kind: WorldBring})
		}
	}
}

// meet has everybody ask those of its site, as who knows nobody would hear of nobody by ticks alone.
func (s *scene) meet() {
	for a := range s.nodes {
		for b := siteOf(a) * SiteSize; b < a; b++ {
			if s.nodes[b].awake() && s.do(Event{Kind: WorldJoin, Node: a, Draw: b}) {
				s.bringAll()
			}
		}
	}
}

func (s *scene) round(number int) {
	for node := range s.nodes {
		if s.do(Event{Kind: WorldTick, Node: node, Draw: 5 * number}) {
			s.bringAll()
		}
	}
}

func (s *scene) calm(rounds int) {
	clear(s.sides)
	s.bringAll()
	s.meet()
	for number := range bounded(rounds, 0, calmMostRounds) {
		s.round(number)
	}
}

func (w World) isBorn(f Fact) bool {
	return slices.Contains(w.Born, f)
}

func (w World) knowsOnlyBorn(n Node) bool {
	return all(NodeView(n), w.isBorn)
}

// foretold holds that nobody is suspected who was not alive, nor dead who was not suspected.
func (w World) foretold(f Fact) bool {
	if f.Is != Suspect && f.Is != Dead {
		return true
	}
	f.Is--
	return w.isBorn(f)
}

// seesJustAwake holds a view against who is there indeed.
func (w World) seesJustAwake(view []Fact) bool {
	for node, n := range w.Nodes {
		f, _ := find(view, node)
		if n.awake() != (f.Is == Alive) {
			return false
		}
	}
	return true
}

// WorldSafe says whether all that anybody knows was told first by somebody who may.
func WorldSafe(w World) bool {
	return WorldOk(w) && all(w.Nodes, w.knowsOnlyBorn) && all(w.Born, w.foretold)
}

// WorldCalm lets some rounds pass in which nothing goes wrong.
func WorldCalm(w World, rounds int) World {
	if !WorldOk(w) {
		return World{}
	}
	s := sceneOf(w)
	s.calm(rounds)
	return s.world()
}

// WorldSame says whether all who are up see the same, and just who is up as alive.
func WorldSame(w World) bool {
	if !WorldOk(w) {
		return false
	}
	seenBy := map[string]int{}
	for _, n := range w.Nodes {
		if !n.awake() {
			continue
		}
		view := NodeView(n)
		if !w.seesJustAwake(view) {
			return false
		}
		seenBy[TableText(view)]++
	}
	return len(seenBy) <= 1
}
