package impl

import (
	"strconv"
	"strings"
)

const eventNames names = "tick bring lose spoil side fall rise leave join"

// eventMost is the greatest number of six figures.
const eventMost = 999999

// page is a text of whole lines, and how many they are.
type page struct {
	strings.Builder
	lines int
}

func (p *page) line(pieces ...string) {
	for _, piece := range pieces {
		p.WriteString(piece)
	}
	p.WriteByte('\n')
	p.lines++
}

func figures(text string, most int) (int, bool) {
	n, ok := number(text)
	return n, ok && within(n, 0, most)
}

// calmOf reads a line that asks for a calm, and of how many rounds.
func calmOf(line string) (int, bool) {
	rounds, found := strings.CutPrefix(line, "calm ")
	if !found {
		return 0, false
	}
	return figures(rounds, calmMostRounds)
}

// eventOf reads a line that is something that happens; `tick 1 0` is `tick 1`, too.
func eventOf(line string) (Event, bool) {
	pieces := strings.SplitN(line, " ", 4)
	if !within(len(pieces), 2, 3) {
		return Event{}, false
	}
	kind, isKind := eventNames.numberOf(pieces[0])
	node, isNode := figures(pieces[1], eventMost)
	if !isKind || !isNode {
		return Event{}, false
	}
	if len(pieces) == 2 {
		return Event{Kind: kind, Node: node}, true
	}
	if kind == WorldBring && pieces[2] == "keep" {
		return Event{Kind: kind, Node: node, Keep: true}, true
	}
	draw, isDraw := figures(pieces[2], eventMost)
	return Event{Kind: kind, Node: node, Draw: draw}, isDraw
}

func (n Node) boardLine() string {
	line := "node " + strconv.Itoa(n.Me)
	if !n.Up {
		return line + " down"
	}
	if n.Gone {
		line += " left"
	}
	line += " now " + strconv.Itoa(n.Now) + " inc " + strconv.Itoa(n.Inc)
	line += " at " + strconv.Itoa(n.Coord.X) + "," + strconv.Itoa(n.Coord.Y) + "+" + strconv.Itoa(n.Coord.H)
	line += " table " + TableText(n.Table)
	for _, o := range n.Others {
		line += " site " + strconv.Itoa(o.Site) + " " + TableText(o.Facts)
	}
	return line
}

// obey does a line of a session.
func (s *scene) obey(line string, p *page) {
	rounds, isCalm := calmOf(line)
	e, isEvent := eventOf(line)
	switch {
	case isCalm:
		s.calm(rounds)
		p.line(sameLine(s.world()))
	case !isEvent:
		p.line("what")
	case !s.do(e):
		p.line("no")
	}
}

func sameLine(w World) string {
	if WorldSame(w) {
		return "all see the same"
	}
	return "not all see the same"
}

// WorldBoard tells how all stands.
func WorldBoard(w World) string {
	if !WorldOk(w) {
		return ""
	}
	p := &page{}
	p.line(strconv.Itoa(len(w.Radio)), " under way, ", strconv.Itoa(len(w.Born)), " told")
	for _, n := range w.Nodes {
		p.line(n.boardLine())
	}
	return p.String()
}

// WorldSession does lines, one behind the other, and tells how all stands.
func WorldSession(lines []string) string {
	s := sceneOf(WorldNew())
	p := &page{}
	for _, line := range lines {
		s.obey(line, p)
	}
	p.WriteString(WorldBoard(s.world()))
	return p.String()
}
