package tests

import (
	"fmt"
	"math"
	"slices"
	"testing"

	"loop.example/lightship/impl"
)

// plainNews is a word that plainNode takes, by any kind but that of sums.
func plainNews(kind int) impl.Word {
	return impl.Word{Pool: lan, Kind: kind, From: 0, To: 1, Seq: 20, About: 0, Coord: at(5, 6, 7, 8), Facts: table("0:4:alive*,2:6:suspect*,3:8:alive")}
}

// wordChange makes a word into another one.
type wordChange struct {
	what string
	make func(w *impl.Word)
}

func wordNumbers(what string, set func(w *impl.Word, to int), values ...int) []wordChange {
	var list []wordChange
	for _, to := range append(values, math.MinInt, math.MaxInt) {
		list = append(list, wordChange{fmt.Sprint(what, " ", to), func(w *impl.Word) { set(w, to) }})
	}
	return list
}

// refusals make a word that plainNode takes, of whatever kind, into one that it does not take.
func refusals() []wordChange {
	list := slices.Concat(
		wordNumbers("Pool", func(w *impl.Word, to int) { w.Pool = to }, -1, 0, 3),
		wordNumbers("Kind", func(w *impl.Word, to int) { w.Kind = to }, -1, 0, 7),
		wordNumbers("From", func(w *impl.Word, to int) { w.From = to }, -4, -1, 1, factMaxNode+1),
		wordNumbers("To", func(w *impl.Word, to int) { w.To = to }, -1, 0, 2, 3, 4, 5, factMaxNode, factMaxNode+1),
		wordNumbers("Seq", func(w *impl.Word, to int) { w.Seq = to }, -1, nodeMaxNow+1),
		wordNumbers("About", func(w *impl.Word, to int) { w.About = to }, -1, factMaxNode+1),
	)
	for _, c := range append(badCoords(), impl.Coord{}) {
		list = append(list, wordChange{fmt.Sprint("at ", c), func(w *impl.Word) { w.Coord = c }})
	}
	for _, bad := range badTables() {
		list = append(list, wordChange{fmt.Sprint("facts ", bad), func(w *impl.Word) { w.Facts = bad }})
	}
	return append(list, wordChange{"facts of two sites", func(w *impl.Word) { w.Facts = table("3:9:alive,4:9:alive") }})
}

func TestWhatPlainNodeTakes(t *testing.T) {
	n := plainNode()
	for kind := pingKind; kind <= backKind; kind++ {
		for from := 0; from <= factMaxNode; from++ {
			w := plainNews(kind)
			w.From = from
			if from >= siteSize {
				w.Facts = table("4:0:alive")
			}
			expect(t, fmt.Sprint(w), impl.NodeTakes(n, w), from == 0 || from == 2 || from == 3)
			w.Facts = nil
			expect(t, fmt.Sprint(w), impl.NodeTakes(n, w), from == 0 || from == 2 || from == 3)
			w.Pool = wan
			expect(t, fmt.Sprint(w), impl.NodeTakes(n, w), false)
		}
	}
	for from := 0; from <= factMaxNode; from++ {
		mate := from == 0 || from == 2 || from == 3
		expect(t, fmt.Sprint("lan, of its own site, from ", from), impl.NodeTakes(n, summary(lan, from, 1, "0:4:alive")), false)
		expect(t, fmt.Sprint("lan, of another site, from ", from), impl.NodeTakes(n, summary(lan, from, 1, "4:4:alive")), mate)
		expect(t, fmt.Sprint("wan, of its own site, from ", from), impl.NodeTakes(n, summary(wan, from, 1, "0:4:alive")), from >= siteSize)
		expect(t, fmt.Sprint("wan, of another site, from ", from), impl.NodeTakes(n, summary(wan, from, 1, "4:4:alive")), from >= siteSize)
	}
	// Whoever a word is about, and by whatever number, it is taken.
	for about := 0; about <= factMaxNode; about++ {
		for _, seq := range []int{0, 1, nodeMaxNow} {
			w := plainNews(ackKind)
			w.About, w.Seq = about, seq
			expect(t, fmt.Sprint(w), impl.NodeTakes(n, w), true)
		}
	}
}

func stays(t *testing.T, what string, n impl.Node, w impl.Word) {
	t.Helper()
	expect(t, what+": taken", impl.NodeTakes(n, w), false)
	after, words := impl.NodeHear(n, w)
	if !same(after, n) || len(words) != 0 {
		t.Errorf("%s: %v by %v became %v, sent %v", what, n, w, after, words)
	}
}

func TestPromise30WhatIsNotForANodeChangesNothing(t *testing.T) {
	words := []impl.Word{summary(wan, 4, 1, "4:9:alive"), summary(wan, 4, 1, "0:9:dead"), summary(lan, 2, 1, "4:9:alive")}
	for kind := pingKind; kind <= backKind; kind++ {
		words = append(words, plainNews(kind))
	}
	gone, _ := impl.NodeLeave(plainNode())
	for _, w := range words {
		expect(t, fmt.Sprint(w), impl.NodeTakes(plainNode(), w), true)
		for _, c := range refusals() {
			bad := roomyCopy(w)
			c.make(&bad)
			stays(t, c.what, plainNode(), bad)
		}
		stays(t, "gone", gone, w)
		stays(t, "down", down(1, true), w)
	}
	for _, w := range []impl.Word{
		summary(lan, 0, 1, "0:9:alive"), summary(lan, 4, 1, "4:9:alive"), summary(lan, 4, 1, "0:9:alive"), summary(wan, 0, 1, "4:9:alive"),
		summary(wan, 0, 1, "0:9:alive"), told(backKind, 4, 1, "4:9:alive"), told(syncKind, 7, 1, "-"), told(pingKind, 1, 1, "0:9:alive"),
	} {
		stays(t, "of the wrong pool or site", plainNode(), w)
	}
	refused := 0
	for _, h := range someHeard(2230, 20000) {
		if !impl.NodeTakes(h.Node, h.Word) {
			stays(t, "drawn", h.Node, h.Word)
			refused++
		}
	}
	expect(t, "enough of them are refused", refused > 2000, true)
}

func TestWhatIsLearntByHand(t *testing.T) {
	n := plainNode()
	for _, c := range []struct {
		from  int
		facts string
		table string
		doubt string
		cast  string
	}{
		{0, "-", "0:3:alive*,1:5:alive*,2:6:suspect*,3:7:dead", "[{2 6 98 [0 1]}]", "0 2;2 4;"},
		{3, "2:6:suspect*", "0:3:alive*,1:5:alive*,2:6:suspect*,3:7:dead", "[{2 6 98 [0 1 3]}]", "0 2;2 4;"},
		{2, "2:6:suspect", "0:3:alive*,1:5:alive*,2:6:suspect*,3:7:dead", "[{2 6 98 [0 1 2]}]", "0 2;2 4;"},
		{0, "2:6:suspect*", "0:3:alive*,1:5:alive*,2:6:suspect*,3:7:dead", "[{2 6 98 [0 1]}]", "0 2;2 4;"},
		{3, "2:5:suspect*", "0:3:alive*,1:5:alive*,2:6:suspect*,3:7:dead", "[{2 6 98 [0 1]}]", "0 2;2 4;"},
		{3, "2:6:alive*", "0:3:alive*,1:5:alive*,2:6:suspect*,3:7:dead", "[{2 6 98 [0 1]}]", "0 2;2 4;"},
		{3, "2:7:suspect", "0:3:alive*,1:5:alive*,2:7:suspect,3:7:dead", "[{2 7 100 [3]}]", "0 2;2 4;"},
		{3, "2:7:alive", "0:3:alive*,1:5:alive*,2:7:alive,3:7:dead", "[]", "0 2;2 4;"},
		{3, "2:6:dead", "0:3:alive*,1:5:alive*,2:6:dead,3:7:dead", "[]", "0 2;2 4;"},
		{3, "2:6:left", "0:3:alive*,1:5:alive*,2:6:left,3:7:dead", "[]", "0 2;2 4;"},
		{2, "0:3:suspect", "0:3:suspect,1:5:alive*,2:6:suspect*,3:7:dead", "[{0 3 100 [2]} {2 6 98 [0 1]}]", "0 4;2 4;"},
		{2, "3:7:suspect", "0:3:alive*,1:5:alive*,2:6:suspect*,3:7:dead", "[{2 6 98 [0 1]}]", "0 2;2 4;"},
		{2, "3:7:dead*", "0:3:alive*,1:5:alive*,2:6:suspect*,3:7:dead*", "[{2 6 98 [0 1]}]", "0 2;2 4;3 4;"},
		{2, "3:8:suspect*", "0:3:alive*,1:5:alive*,2:6:suspect*,3:8:suspect*", "[{2 6 98 [0 1]} {3 8 100 [2]}]", "0 2;2 4;3 4;"},
		{2, "0:3:alive", "0:3:alive*,1:5:alive*,2:6:suspect*,3:7:dead", "[{2 6 98 [0 1]}]", "0 2;2 4;"},
		{3, "0:9:suspect,2:6:suspect,3:8:alive*", "0:9:suspect,1:5:alive*,2:6:suspect*,3:8:alive*", "[{0 9 100 [3]} {2 6 98 [0 1 3]}]", "0 4;2 4;3 4;"},
	} {
		what := fmt.Sprint(c)
		after, words := impl.NodeHear(n, told(backKind, c.from, 1, c.facts))
		expect(t, what+": table", impl.TableText(after.Table), c.table)
		expect(t, what+": doubts", fmt.Sprint(after.Doubts), c.doubt)
		cast := ""
		for _, i := range after.Cast {
			cast += fmt.Sprint(i.Fact.Node, " ", i.Left, ";")
			if i.Left == castTimes && i.Fact.Node != 2 {
				expect(t, what+": told on", i.Fact, factOf(after.Table, i.Fact.Node))
			}
		}
		expect(t, what+": cast", cast, c.cast)
		expect(t, what+": sent", len(words), 0)
		after.Table, after.Doubts, after.Cast = n.Table, n.Doubts, n.Cast
		expect(t, what+": nothing else", same(after, n), true)
	}
}

// A fact of which only Gate is new is told on, but nobody is less suspected by it, nor anew.
func TestOnlyGateIsNew(t *testing.T) {
	n := meets(0, "1:4:suspect,2:2:alive")
	n.Now, n.Doubts[0].Since = 9, 5
	after, _ := impl.NodeHear(n, told(backKind, 2, 0, "1:4:suspect*,2:2:alive*"))
	expect(t, "table", impl.TableText(after.Table), "0:0:alive*,1:4:suspect*,2:2:alive*")
	expect(t, "the doubt stays, and one more has it", fmt.Sprint(after.Doubts), "[{1 4 5 [0 2]}]")
	expect(t, "told on", fmt.Sprint(after.Cast), fmt.Sprint([]impl.Item{item(gate(1, 4, isSuspect), 4), item(gate(2, 2, isAlive), 4)}))
}

func TestWhatWasHeardAboutOneself(t *testing.T) {
	n := meets(2, "3:0:alive")
	n.Inc, n.Gate = 5, false
	n.Table = table("2:5:alive,3:0:alive")
	edge := n
	edge.Inc, edge.Table = factMaxInc, table("2:999:alive,3:0:alive")
	last := n
	last.Inc, last.Table = factMaxInc-1, table("2:998:alive,3:0:alive")
	for _, c := range []struct {
		n    impl.Node
		fact string
		inc  int
	}{
		{n, "2:5:alive", 5}, {n, "2:5:suspect", 6}, {n, "2:5:dead", 6}, {n, "2:5:left", 6}, {n, "2:5:suspect*", 6}, {n, "2:5:alive*", 6},
		{n, "2:4:suspect", 5}, {n, "2:4:dead*", 5}, {n, "2:4:left*", 5}, {n, "2:0:left", 5},
		{n, "2:6:alive", 7}, {n, "2:6:suspect", 7}, {n, "2:6:dead", 7}, {n, "2:77:left*", 78}, {n, "2:998:dead", 999}, {n, "2:998:alive", 999},
		{n, "2:999:alive", 5}, {n, "2:999:suspect", 5}, {n, "2:999:dead*", 5}, {n, "2:999:left", 5},
		{last, "2:998:alive", 998}, {last, "2:998:suspect", 999}, {last, "2:998:left", 999}, {last, "2:999:dead", 998}, {last, "2:997:dead", 998},
		{edge, "2:999:alive", 999}, {edge, "2:999:suspect", 999}, {edge, "2:999:dead", 999}, {edge, "2:999:left*", 999}, {edge, "2:998:left", 999},
	} {
		for _, w := range []impl.Word{told(backKind, 3, 2, c.fact), told(ackKind, 0, 2, c.fact), summary(wan, 6, 2, c.fact)} {
			what := fmt.Sprint(c.n.Inc, " told ", c.fact, " by ", kindTexts[w.Kind])
			after, words := impl.NodeHear(c.n, w)
			want := roomyCopy(c.n)
			if c.inc != c.n.Inc {
				want.Inc, want.Table[0].Inc = c.inc, c.inc
				want.Cast = []impl.Item{item(fact(2, c.inc, isAlive), castTimes)}
			}
			expect(t, what, fmt.Sprint(after), fmt.Sprint(want))
			expect(t, what+": sent", len(words), 0)
		}
	}
}

func TestAnswersByHand(t *testing.T) {
	n := meets(5, "4:0:alive,6:3:suspect*,7:1:alive")
	n.Coord = at(1, -2, 3, 4)
	n.Cast = []impl.Item{item(fact(7, 1, isAlive), 2)}
	all := "4:0:alive,5:0:alive*,6:3:suspect*,7:1:alive"
	for _, c := range []struct {
		kind, from, about int
		want              string
	}{
		{pingKind, 4, 4, "ack 4 9 5 7:1:alive"}, {pingKind, 4, 7, "ack 7 9 5 7:1:alive"}, {pingKind, 4, 6, "ack 6 9 5 6:3:suspect*,7:1:alive"},
		{pingKind, 6, 6, "ack 6 9 5 6:3:suspect*,7:1:alive"}, {pingKind, 4, 5, ""}, {pingKind, 4, 1, ""}, {pingKind, 4, 3, ""},
		{askKind, 4, 7, "ping 7 9 4 7:1:alive"}, {askKind, 4, 6, "ping 6 9 4 6:3:suspect*,7:1:alive"}, {askKind, 6, 4, "ping 4 9 6 7:1:alive"},
		{askKind, 4, 4, ""}, {askKind, 4, 5, ""}, {askKind, 4, 0, ""}, {askKind, 4, 2, ""},
		{syncKind, 4, 4, "back 4 0 5 " + all}, {syncKind, 7, 0, "back 7 0 5 " + all}, {syncKind, 6, 5, "back 6 0 5 " + all},
		{backKind, 4, 4, ""}, {backKind, 4, 7, ""}, {ackKind, 4, 4, ""}, {ackKind, 7, 4, ""},
	} {
		w := told(c.kind, c.from, 5, "-")
		w.Seq, w.About = 9, c.about
		after, words := impl.NodeHear(n, w)
		sent := ""
		for _, a := range words {
			sent += fmt.Sprint(kindTexts[a.Kind], " ", a.To, " ", a.Seq, " ", a.About, " ", impl.TableText(a.Facts))
			expect(t, fmt.Sprint(a), a.Pool == lan && a.From == 5 && a.Coord == n.Coord, true)
		}
		what := fmt.Sprint(c)
		expect(t, what, sent, c.want)
		if len(words) == 1 && words[0].Kind != backKind {
			expect(t, what+": told on once less", fmt.Sprint(after.Cast), fmt.Sprint([]impl.Item{item(fact(7, 1, isAlive), 1)}))
			after.Cast = n.Cast
		}
		expect(t, what+": nothing else", same(after, n), true)
	}
}

// What is answered tells what was learnt just now.
func TestWhatWasLearntIsToldAtOnce(t *testing.T) {
	n := meets(1, "0:0:alive")
	_, words := impl.NodeHear(n, told(syncKind, 0, 1, "0:0:alive*,1:2:dead,3:4:suspect"))
	expect(t, "by sync", impl.TableText(words[0].Facts), "0:0:alive*,1:3:alive*,3:4:suspect")
	after, words := impl.NodeHear(n, told(pingKind, 0, 1, "0:0:suspect,1:2:dead,3:4:suspect"))
	expect(t, "by ping", impl.TableText(words[0].Facts), "0:0:suspect,1:3:alive*,3:4:suspect")
	expect(t, "and told on", fmt.Sprint(after.Cast), fmt.Sprint([]impl.Item{item(fact(0, 0, 2), 3), item(gate(1, 3, 1), 3), item(fact(3, 4, 2), 3)}))
	ask := told(askKind, 0, 1, "3:4:suspect")
	ask.About = 3
	_, words = impl.NodeHear(n, ask)
	expect(t, "by ask", len(words) == 1 && words[0].To == 3 && impl.TableText(words[0].Facts) == "3:4:suspect", true)
}

func TestTripsByHand(t *testing.T) {
	for _, c := range []struct {
		since, now int
		had        []int
		want       []int
		median     int
	}{
		{7, 7, nil, []int{500}, 500},
		{7, 8, nil, []int{1500}, 1500},
		{7, 10, []int{500}, []int{500, 3500}, 500},
		{7, 9, []int{9000, 700}, []int{9000, 700, 2500}, 2500},
		{7, 9, []int{1, 9000, 700}, []int{9000, 700, 2500}, 2500},
		{7, 7, []int{1, 2, 3}, []int{2, 3, 500}, 3},
		{0, 59, nil, []int{59500}, 59500},
		{0, 60, nil, []int{coordMaxTrip}, coordMaxTrip},
		{0, nodeMaxNow, []int{coordMaxTrip}, []int{coordMaxTrip, coordMaxTrip}, coordMaxTrip},
	} {
		what := fmt.Sprint(c)
		n := meets(0, "1:0:alive,2:0:alive,3:0:alive")
		n.Now, n.Seq, n.Turn, n.Coord = c.now, 9, 3, at(4, 4, 10, 300)
		n.Probe = impl.Probe{Node: 2, Since: c.since, Seq: 6, Asked: true}
		n.Places = []impl.Place{{Node: 1, Coord: at(9, 9, 9, 9), Trips: []int{3}}, {Node: 3, Coord: at(8, 8, 8, 8), Trips: []int{4}}}
		if c.had != nil {
			n.Places = slices.Insert(n.Places, 1, impl.Place{Node: 2, Coord: at(7, 7, 7, 7), Trips: c.had})
		}
		w := told(ackKind, 2, 0, "-")
		w.Seq, w.Coord = 6, at(4, 4, 0, 100)
		after, words := impl.NodeHear(n, w)
		expect(t, what, fmt.Sprint(after.Places), fmt.Sprint([]impl.Place{
			{Node: 1, Coord: at(9, 9, 9, 9), Trips: []int{3}}, {Node: 2, Coord: w.Coord, Trips: c.want}, {Node: 3, Coord: at(8, 8, 8, 8), Trips: []int{4}},
		}))
		expect(t, what, after.Coord, impl.CoordMove(n.Coord, w.Coord, c.median, 6))
		expect(t, what, after.Probe, impl.Probe{Node: -1})
		expect(t, what, len(words), 0)
		after.Places, after.Coord, after.Probe = n.Places, n.Coord, n.Probe
		expect(t, what+": nothing else", same(after, n), true)
	}
}

// Which way two at one place part is by the number of the probe.
func TestTurnsOfTripsByHand(t *testing.T) {
	for seq, want := range map[int]impl.Coord{4: at(62, 0, 15, 1438), 5: at(0, 62, 15, 1438), 6: at(-62, 0, 15, 1438), 7: at(0, -62, 15, 1438)} {
		n := meets(0, "1:0:alive")
		n.Seq, n.Probe = 9, impl.Probe{Node: 1, Seq: seq}
		w := told(ackKind, 1, 0, "-")
		w.Seq = seq
		after, _ := impl.NodeHear(n, w)
		expect(t, fmt.Sprint(seq), after.Coord, want)
	}
}

func TestAnswersThatComeLateOrFromOthers(t *testing.T) {
	n := meets(0, "1:0:alive,2:0:suspect")
	n.Now, n.Seq, n.Probe = 12, 9, impl.Probe{Node: 1, Since: 11, Seq: 8}
	right := told(ackKind, 1, 0, "-")
	right.Seq = 8
	after, _ := impl.NodeHear(n, right)
	expect(t, "the right one", after.Probe.Node == -1 && len(after.Places) == 1, true)
	over := after
	idle := n
	idle.Probe = impl.Probe{Node: -1}
	for what, c := range map[string]struct {
		n    impl.Node
		make func(w *impl.Word)
	}{
		"an older number":        {n, func(w *impl.Word) { w.Seq = 7 }},
		"a later number":         {n, func(w *impl.Word) { w.Seq = 9 }},
		"no number":              {n, func(w *impl.Word) { w.Seq = 0 }},
		"from another one":       {n, func(w *impl.Word) { w.From, w.About = 2, 2 }},
		"by way of another one":  {n, func(w *impl.Word) { w.From = 2 }},
		"about another one":      {n, func(w *impl.Word) { w.About = 2 }},
		"about the node":         {n, func(w *impl.Word) { w.About = 0 }},
		"about one far away":     {n, func(w *impl.Word) { w.About = 5 }},
		"a second time":          {over, func(w *impl.Word) {}},
		"when nobody was asked":  {idle, func(w *impl.Word) {}},
		"none, when nobody was ": {idle, func(w *impl.Word) { w.Seq = 0 }},
		"of another kind":        {n, func(w *impl.Word) { w.Kind = backKind }},
	} {
		w := right
		c.make(&w)
		after, words := impl.NodeHear(c.n, w)
		expect(t, what, same(after, c.n) && len(words) == 0, true)
	}
	// What a late answer tells is still learnt.
	late := right
	late.Seq, late.Facts = 3, table("2:1:alive")
	after, _ = impl.NodeHear(n, late)
	expect(t, "late", after.Probe == n.Probe && impl.TableText(after.Table) == "0:0:alive*,1:0:alive,2:1:alive", true)
	// An answer that says of its sender that it left ends the probe, too.
	gone := right
	gone.Facts = table("1:0:left")
	after, _ = impl.NodeHear(n, gone)
	expect(t, "gone", after.Probe.Node == -1 && standing(after, 1) == hasLeft, true)
}

func TestWhatAGatewayTellsBack(t *testing.T) {
	knows := impl.NodeNew(3, false)
	knows.Others = []impl.Foreign{{Site: 1, Facts: table("4:2:alive*,6:0:dead")}}
	for _, c := range []struct {
		n      impl.Node
		facts  string
		behind string
		back   bool
	}{
		{impl.NodeNew(3, false), "4:2:alive*", "4:2:alive*", false},
		{impl.NodeNew(3, false), "4:2:alive*,5:0:left,7:9:suspect", "4:2:alive*,5:0:left,7:9:suspect", false},
		{knows, "4:2:alive*,6:0:dead", "4:2:alive*,6:0:dead", false},
		{knows, "4:3:alive,6:0:left", "4:3:alive,6:0:left", false},
		{knows, "4:2:alive*,5:0:alive,6:0:dead", "4:2:alive*,5:0:alive,6:0:dead", false},
		{knows, "4:2:alive*", "4:2:alive*,6:0:dead", true},
		{knows, "4:1:dead*,6:0:dead", "4:2:alive*,6:0:dead", true},
		{knows, "4:2:alive,6:0:dead", "4:2:alive*,6:0:dead", true},
		{knows, "6:1:alive", "4:2:alive*,6:1:alive", true},
		{knows, "5:7:suspect*", "4:2:alive*,5:7:suspect*,6:0:dead", true},
	} {
		for _, w := range []impl.Word{summary(wan, 5, 3, c.facts), summary(lan, 1, 3, c.facts)} {
			what := fmt.Sprint(c, " by ", poolTexts[w.Pool])
			w.Seq, w.About = 55, 2
			after, words := impl.NodeHear(c.n, w)
			expect(t, what+": known", fmt.Sprint(after.Others), fmt.Sprint([]impl.Foreign{{Site: 1, Facts: table(c.behind)}}))
			after.Others = c.n.Others
			expect(t, what+": nothing else", same(after, c.n), true)
			want := []impl.Word{}
			if c.back && w.Pool == wan {
				want = append(want, impl.Word{Pool: wan, Kind: sumKind, From: 3, To: 5, About: 3, Coord: impl.CoordNew(), Facts: table(c.behind)})
			}
			expect(t, what+": back", fmt.Sprint(words), fmt.Sprint(want))
		}
	}
	// What comes back of its own site is learnt as said by the node itself, and not answered.
	n := meets(3, "1:4:alive,2:0:suspect*")
	n.Now, n.Doubts[0].Since, n.Doubts[0].By = 8, 6, []int{1}
	after, words := impl.NodeHear(n, summary(wan, 5, 3, "0:1:suspect,1:4:alive*,2:0:suspect,3:0:dead"))
	expect(t, "table", impl.TableText(after.Table), "0:1:suspect,1:4:alive*,2:0:suspect*,3:1:alive*")
	expect(t, "doubts", fmt.Sprint(after.Doubts), "[{0 1 8 [3]} {2 0 6 [1 3]}]")
	expect(t, "sent", len(words), 0)
	expect(t, "Others", len(after.Others), 0)
}
