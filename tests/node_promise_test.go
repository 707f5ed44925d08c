package tests

import (
	"cmp"
	"fmt"
	"math"
	"slices"
	"testing"

	"loop.example/lightship/impl"
)

func TestPromise27ANodeStaysOkAndKnowsNoLess(t *testing.T) {
	eachStep(t, func(s step) string {
		if !impl.NodeOk(s.after) {
			return "not ok"
		}
		for _, f := range s.before.Table {
			if !holds(s.after.Table, f) {
				return fmt.Sprint(f, " is lost")
			}
		}
		return ""
	})
}

func TestPromise28WhatANodeSaysCanBeRead(t *testing.T) {
	sent := 0
	eachStep(t, func(s step) string {
		for _, w := range s.words {
			sent++
			again, ok := impl.WordRead(impl.WordWrite(w))
			if !impl.WordOk(w) || !ok || !sameWord(again, w) {
				return fmt.Sprint(w, " is not read")
			}
			if w.From != s.before.Me || w.To == s.before.Me {
				return fmt.Sprint(w, " is not from it, or to it")
			}
		}
		return ""
	})
	expect(t, "enough is sent", sent > 10000, true)
}

func TestPromise29WhatIsHeardIsKnown(t *testing.T) {
	eachStep(t, func(s step) string {
		me := s.before.Me
		if !s.takes() || s.heard.Kind == sumKind {
			return ""
		}
		want := withoutNode(joinByRank(s.before.Table, s.heard.Facts), me)
		return broken(!slices.Equal(withoutNode(s.after.Table, me), want), fmt.Sprint("others are not ", want))
	})
}

func TestPromise31WhatComesFromAnotherSite(t *testing.T) {
	home, away := 0, 0
	eachStep(t, func(s step) string {
		if !s.takes() || s.heard.Pool != wan {
			return ""
		}
		site := s.heard.Facts[0].Node / siteSize
		if site == s.before.Me/siteSize {
			home++
			return broken(!slices.Equal(nodesOf(s.after.Table), nodesOf(joinByRank(s.before.Table, s.heard.Facts))), "other nodes") +
				broken(!same(s.after.Others, s.before.Others), "other sites changed") + broken(len(s.words) > 0, "answered")
		}
		away++
		known := joinByRank(knownOf(s.before, site), s.heard.Facts)
		want := s.before
		want.Others = []impl.Foreign{{Site: site, Facts: known}}
		return broken(!same(s.after, want), fmt.Sprint("not ", known, " alone"))
	})
	expect(t, "enough of both", home > 300 && away > 300, true)
}

func nodesOf(t []impl.Fact) []int {
	var nodes []int
	for _, f := range t {
		nodes = append(nodes, f.Node)
	}
	return nodes
}

func TestPromise32WhoIsToldDeadAndLivesSaysSo(t *testing.T) {
	for _, n := range someNodes(2132, 1500) {
		if !isIn(n) {
			continue
		}
		for is := isSuspect; is <= hasLeft; is++ {
			for _, inc := range []int{n.Inc, n.Inc + 1, n.Inc + 7, factMaxInc - 1} {
				if inc < n.Inc || inc >= factMaxInc {
					continue
				}
				for kind := pingKind; kind <= backKind; kind++ {
					w := told(kind, mates(n.Me)[inc%3], n.Me, "-")
					w.Facts = []impl.Fact{fact(n.Me, inc, is)}
					after, _ := impl.NodeHear(n, w)
					own := impl.Fact{Node: n.Me, Inc: inc + 1, Is: isAlive, Gate: n.Gate}
					isCast := slices.ContainsFunc(after.Cast, func(i impl.Item) bool { return i.Fact == own })
					if after.Inc != inc+1 || factOf(after.Table, n.Me) != own || !isCast {
						t.Fatalf("%v heard %v, and became %v", n, w, after)
					}
				}
			}
		}
	}
}

func TestPromise33NobodySaysOfItselfButThatItLivesOrGoes(t *testing.T) {
	eachStep(t, func(s step) string {
		n := s.after
		if !n.Up {
			return ""
		}
		own := impl.Fact{Node: n.Me, Inc: n.Inc, Is: isAlive, Gate: s.before.Gate}
		if n.Gone {
			own.Is = hasLeft
		}
		return broken(factOf(n.Table, n.Me) != own, "says another thing of itself") + broken(n.Inc < s.before.Inc, "a lesser number") +
			broken(n.Gone != s.before.Gone, "goes by itself")
	})
}

func TestPromise34NobodyIsToldDeadTooSoon(t *testing.T) {
	died := 0
	eachStep(t, func(s step) string {
		for _, f := range s.after.Table {
			was := factOf(s.before.Table, f.Node)
			if s.hears || f.Is != isDead || was.Is == isDead {
				continue
			}
			died++
			doubt, doubted := doubtOf(s.before, f.Node)
			sure, _ := impl.NodeSure(s.before, f.Node)
			if was.Is != isSuspect || was.Inc != f.Inc || !doubted || s.after.Now-doubt.Since < doubtLeast || sure > 1 {
				return fmt.Sprint(f, " too soon")
			}
		}
		return ""
	})
	expect(t, "enough die", died > 500, true)
}

func TestPromise35NobodyIsSuspectedTooSoon(t *testing.T) {
	suspected := 0
	eachStep(t, func(s step) string {
		for _, f := range s.after.Table {
			was := factOf(s.before.Table, f.Node)
			if s.hears || f.Is != isSuspect || was.Is == isSuspect {
				continue
			}
			suspected++
			p := s.before.Probe
			if p.Node != f.Node || s.after.Now-p.Since < probeTicks || was.Is != isAlive || was.Inc != f.Inc {
				return fmt.Sprint(f, " too soon")
			}
		}
		return ""
	})
	expect(t, "enough are suspected", suspected > 500, true)
}

func TestPromise36WhoAnswersIsNotSuspectedForThat(t *testing.T) {
	d := &draws{2136}
	answered := 0
	for _, n := range someNodes(2137, 4000) {
		if !isIn(n) || n.Probe.Node < 0 {
			continue
		}
		answered++
		w := told(ackKind, n.Probe.Node, n.Me, "-")
		w.Seq, w.Coord = n.Probe.Seq, drawCoord(d)
		after, words := impl.NodeHear(n, w)
		place, known := placeOf(after, n.Probe.Node)
		if after.Probe != (impl.Probe{Node: -1}) || !known || place.Coord != w.Coord || len(words) > 0 {
			t.Fatalf("%v heard %v, and became %v", n, w, after)
		}
		again, _ := impl.NodeTick(after, 3)
		if standing(n, n.Probe.Node) == isAlive && standing(again, n.Probe.Node) != isAlive {
			t.Fatalf("%v is suspected all the same", n)
		}
		for _, seq := range []int{0, n.Probe.Seq - 1, n.Probe.Seq + 1, nodeMaxNow} {
			if seq == n.Probe.Seq || seq > nodeMaxNow {
				continue
			}
			w.Seq = seq
			after, words = impl.NodeHear(n, w)
			if !same(after, n) || len(words) > 0 {
				t.Fatalf("%v heard %v, and became %v", n, w, after)
			}
		}
	}
	expect(t, "enough answer", answered > 1000, true)
}

// thirds are all who may ask, and of whom, beside a node.
func thirds(me int) [][2]int {
	var list [][2]int
	for _, from := range mates(me) {
		for _, about := range mates(me) {
			list = append(list, [2]int{from, about})
		}
	}
	return list
}

func TestPromise37WhoIsAskedAnswersAtOnce(t *testing.T) {
	d := &draws{2138}
	for _, n := range someNodes(2139, 1500) {
		for _, third := range thirds(n.Me) {
			w := told(pingKind, third[0], n.Me, "-")
			w.About, w.Seq, w.Facts = third[1], d.between(0, nodeMaxNow), nearTable(d, n.Table, siteNodes(n.Me), 0)
			_, words := impl.NodeHear(n, w)
			if !isIn(n) {
				expect(t, "nobody is there", len(words), 0)
			} else if len(words) != 1 || words[0].Kind != ackKind || words[0].To != third[1] || words[0].Seq != w.Seq || words[0].About != n.Me || words[0].Pool != lan {
				t.Fatalf("%v heard %v, and sent %v", n, w, words)
			}
		}
	}
}

func TestPromise38WhoIsAskedToAskDoes(t *testing.T) {
	d := &draws{2140}
	for _, n := range someNodes(2141, 1500) {
		for _, third := range thirds(n.Me) {
			w := told(askKind, third[0], n.Me, "-")
			w.About, w.Seq, w.Facts = third[1], d.between(0, nodeMaxNow), nearTable(d, n.Table, siteNodes(n.Me), 0)
			_, words := impl.NodeHear(n, w)
			if !isIn(n) || third[0] == third[1] {
				expect(t, "nobody is asked", len(words), 0)
			} else if len(words) != 1 || words[0].Kind != pingKind || words[0].To != third[1] || words[0].Seq != w.Seq || words[0].About != third[0] || words[0].Pool != lan {
				t.Fatalf("%v heard %v, and sent %v", n, w, words)
			}
		}
	}
}

// isOf says whether a node has each fact of a table, or one that overrides it.
func isOf(n impl.Node, t []impl.Fact) bool {
	return !slices.ContainsFunc(t, func(f impl.Fact) bool { return !holds(n.Table, f) })
}

func TestPromise39BehindAJoinBothKnowWhatEitherKnew(t *testing.T) {
	nodes := someNodes(2142, 700)
	joined := 0
	for i, a := range nodes {
		for _, b := range nodes[max(i-25, 0):i] {
			last := factOf(a.Table, b.Me).Inc == factMaxInc || factOf(b.Table, a.Me).Inc == factMaxInc
			if !isIn(a) || !isIn(b) || a.Me/siteSize != b.Me/siteSize || a.Me == b.Me || last {
				continue
			}
			joined++
			first, words := impl.NodeJoin(a, b.Me)
			second, answer := impl.NodeHear(b, words[0])
			expect(t, "one asks, one answers", len(words) == 1 && len(answer) == 1, true)
			first, words = impl.NodeHear(first, answer[0])
			expect(t, "and that is all", len(words), 0)
			for _, known := range [][]impl.Fact{a.Table, b.Table, second.Table} {
				if !isOf(first, known) {
					t.Fatalf("%v\nand %v:\nthe first lacks some of %v", a, b, known)
				}
			}
			for _, known := range [][]impl.Fact{a.Table, b.Table, withoutNode(first.Table, a.Me)} {
				if !isOf(second, known) {
					t.Fatalf("%v\nand %v:\nthe second lacks some of %v", a, b, known)
				}
			}
			if own := factOf(first.Table, a.Me); own == factOf(a.Table, a.Me) && !holds(second.Table, own) {
				t.Fatalf("%v\nand %v: the second lacks the first", a, b)
			}
		}
	}
	expect(t, "enough of them join", joined > 1000, true)
}

func TestPromise40WhoGoesSaysSoAndIsSilent(t *testing.T) {
	d := &draws{2143}
	for _, n := range someNodes(2144, 3000) {
		gone, words := impl.NodeLeave(n)
		if !isIn(n) {
			expect(t, fmt.Sprint("stays: ", n), same(gone, n) && len(words) == 0, true)
			continue
		}
		var to []int
		for _, w := range words {
			to = append(to, w.To)
			own := impl.Fact{Node: n.Me, Inc: n.Inc, Is: hasLeft, Gate: n.Gate}
			if !impl.WordOk(w) || w.Kind != backKind || w.From != n.Me || factOf(w.Facts, n.Me) != own || !slices.Equal(w.Facts, gone.Table) {
				t.Fatalf("%v left by %v", n, w)
			}
		}
		expectList(t, fmt.Sprint("told by ", n), to, slices.DeleteFunc(mates(n.Me), func(m int) bool { return !mayLive(n, m) }))
		w := drawFor(d, n)
		heard, back := impl.NodeHear(gone, w)
		ticked, more := impl.NodeTick(gone, drawDraw(d))
		joined, joins := impl.NodeJoin(gone, mates(n.Me)[0])
		again, last := impl.NodeLeave(gone)
		silent := len(back)+len(more)+len(joins)+len(last) == 0 && !impl.NodeTakes(gone, w)
		stay := same(heard, gone) && same(ticked, gone) && same(joined, gone) && same(again, gone)
		if !impl.NodeOk(gone) || !gone.Gone || !silent || !stay {
			t.Fatalf("%v is gone, and is not silent, or does not stay", gone)
		}
	}
}

func TestPromise41AllThatANodeSeesIsTold(t *testing.T) {
	for _, n := range someNodes(2145, 5000) {
		view := impl.NodeView(n)
		if !n.Up {
			expect(t, "down", len(view), 0)
			continue
		}
		want := slices.Clone(n.Table)
		for _, o := range n.Others {
			want = append(want, o.Facts...)
		}
		slices.SortFunc(want, func(f impl.Fact, g impl.Fact) int { return cmp.Compare(f.Node, g.Node) })
		expect(t, fmt.Sprint(n), impl.TableOk(view) && slices.Equal(view, want) && factOf(view, n.Me).Is != 0, true)
	}
	for me := 0; me <= factMaxNode; me++ {
		expectList(t, "new", impl.NodeView(impl.NodeNew(me, me == 2)), []impl.Fact{{Node: me, Is: isAlive, Gate: me == 2}})
	}
}

func TestPromise42TheNearestAreJustTheNearest(t *testing.T) {
	for _, n := range someNodes(2146, 4000) {
		var want []int
		for _, p := range n.Places {
			if standing(n, p.Node) == isAlive {
				want = append(want, p.Node)
			}
		}
		far := func(node int) int {
			p, _ := placeOf(n, node)
			return impl.CoordDist(n.Coord, p.Coord)
		}
		slices.SortFunc(want, func(a int, b int) int { return cmp.Or(cmp.Compare(far(a), far(b)), cmp.Compare(a, b)) })
		for _, most := range []int{math.MinInt, -1, 0, 1, 2, 3, 4, math.MaxInt} {
			expectList(t, fmt.Sprint(most, " of ", n), impl.NodeNear(n, most), want[:min(max(most, 0), len(want))])
		}
	}
}

func TestPromise43TheMoreSuspectTheSoonerButNeverAtOnce(t *testing.T) {
	for _, n := range someNodes(2147, 3000) {
		for _, f := range n.Table {
			sure, doubted := impl.NodeSure(n, f.Node)
			doubt, isDoubted := doubtOf(n, f.Node)
			expect(t, fmt.Sprint(n), doubted, isDoubted)
			expect(t, fmt.Sprint(n), 0 <= sure && sure <= doubtTicks, true)
			if !isDoubted {
				continue
			}
			expect(t, fmt.Sprint(n), sure, max(patience(len(doubt.By))-n.Now+doubt.Since, 0))
			expect(t, "never at once", doubt.Since < n.Now || sure >= doubtLeast, true)
			for _, from := range mates(n.Me) {
				w := told(backKind, from, n.Me, "-")
				w.Facts = []impl.Fact{f}
				after, _ := impl.NodeHear(n, w)
				more, _ := impl.NodeSure(after, f.Node)
				expect(t, fmt.Sprint(from, " suspects, too: ", n), more <= sure, true)
				if isIn(n) && !slices.Contains(doubt.By, from) && sure > 0 && len(doubt.By) < 4 {
					expect(t, fmt.Sprint(from, " suspects, too: ", n), more, sure-1)
				}
			}
		}
	}
}

func TestPromise44WhatIsNewIsToldOn(t *testing.T) {
	d := &draws{2148}
	told4 := 0
	for _, n := range someNodes(2149, 5000) {
		w := told(backKind, mates(n.Me)[0], n.Me, "-")
		w.Facts = nearTable(d, n.Table, siteNodes(n.Me), 1)
		after, _ := impl.NodeHear(n, w)
		for _, f := range after.Table {
			if factOf(n.Table, f.Node) != f {
				told4++
				expect(t, fmt.Sprint(f, " by ", n), slices.Contains(after.Cast, item(f, castTimes)), true)
			}
		}
		for _, i := range after.Cast {
			if factOf(n.Table, i.Fact.Node) == factOf(after.Table, i.Fact.Node) {
				expect(t, fmt.Sprint("as before: ", i, " by ", n), slices.Contains(n.Cast, i), true)
			}
		}
	}
	expect(t, "enough is new", told4 > 2000, true)
}

func TestPromise45EverybodyWhoMayLiveIsAskedInTurn(t *testing.T) {
	d := &draws{2150}
	for range 1500 {
		n := impl.NodeNew(d.between(0, factMaxNode), true)
		n.Turn = d.between(0, factMaxNode+1)
		for _, node := range drawSome(d, mates(n.Me), 0) {
			n.Table = joinByRank(n.Table, []impl.Fact{fact(node, d.between(0, 3), d.oneOf([]int{isAlive, isAlive, isAlive, isDead, hasLeft}))})
		}
		asked := map[int]bool{}
		for range factMaxNode + 6 {
			var words []impl.Word
			n, words = impl.NodeTick(n, drawDraw(d))
			for _, w := range ofKind(words, pingKind) {
				asked[w.To] = true
				answer := told(ackKind, w.To, n.Me, "-")
				answer.Seq = w.Seq
				n, _ = impl.NodeHear(n, answer)
			}
		}
		for _, node := range mates(n.Me) {
			expect(t, fmt.Sprint(node, " is asked by ", n), asked[node], standing(n, node) == isAlive)
		}
	}
}

func TestPromise46WhoKnowsTheSameHasTheSameGateways(t *testing.T) {
	for _, n := range someNodes(2151, 4000) {
		view := impl.NodeView(n)
		for site := 0; site <= 1; site++ {
			var want []int
			for _, f := range view {
				if f.Node/siteSize == site && f.Is == isAlive && f.Gate && len(want) < gateCount {
					want = append(want, f.Node)
				}
			}
			expectList(t, fmt.Sprint("of ", site, " by ", n), impl.NodeGates(n, site), want)
		}
	}
	// Two of a site that know the same, from either side.
	all := table("0:1:alive*,1:0:alive,2:0:alive*,3:2:alive*")
	var gates [][]int
	for me := range siteSize {
		n := impl.NodeNew(me, all[me].Gate)
		n.Inc, n.Table = all[me].Inc, all
		gates = append(gates, impl.NodeGates(n, 0))
	}
	expect(t, "all the same", fmt.Sprint(gates), "[[0 2] [0 2] [0 2] [0 2]]")
}

func TestPromise47WhatIsNewIsToldOnceWithWhatItWas(t *testing.T) {
	views := someTables(2152, 250)
	for _, old := range views {
		expect(t, "of itself", len(impl.ViewNews(old, slices.Clone(old))), 0)
		for _, now := range views[:60] {
			what := fmt.Sprint(old, " and ", now)
			view := old
			last := -1
			for _, n := range impl.ViewNews(old, now) {
				expect(t, what+": once, in order", n.Fact.Node > last, true)
				last = n.Fact.Node
				expect(t, what+": was", n.Was, factOf(old, n.Fact.Node).Is)
				expect(t, what+": new", factOf(now, n.Fact.Node) == n.Fact && factOf(old, n.Fact.Node) != n.Fact, true)
				view, _ = impl.TablePut(view, n.Fact)
			}
			expectList(t, what, view, joinByRank(old, now))
		}
	}
}

func TestPromise48EverybodyStandsInJustOneWay(t *testing.T) {
	for _, view := range someTables(2153, 2000) {
		sum := 0
		for is := -1; is <= 6; is++ {
			want := 0
			for _, f := range view {
				if f.Is == is {
					want++
				}
			}
			expect(t, fmt.Sprint(is, " in ", view), impl.ViewCount(view, is), want)
			if isAlive <= is && is <= hasLeft {
				sum += impl.ViewCount(view, is)
			}
		}
		expect(t, fmt.Sprint(view), sum, len(view))
	}
}

func TestPromise71WhoIsDownSeesSaysAndTakesNothing(t *testing.T) {
	d := &draws{2154}
	for _, up := range someNodes(2155, 2000) {
		n := down(up.Me, up.Gate)
		w := drawFor(d, up)
		w.To = n.Me
		ticked, words := impl.NodeTick(n, drawDraw(d))
		heard, back := impl.NodeHear(n, w)
		joined, joins := impl.NodeJoin(n, mates(n.Me)[0])
		gone, leaves := impl.NodeLeave(n)
		stays := same(ticked, n) && same(heard, n) && same(joined, n) && same(gone, n)
		silent := len(words)+len(back)+len(joins)+len(leaves) == 0
		_, trip := impl.NodeTrip(n, mates(n.Me)[0])
		_, sure := impl.NodeSure(n, mates(n.Me)[0])
		sees := len(impl.NodeView(n))+len(impl.NodeNear(n, 9))+len(impl.NodeGates(n, 0))+len(impl.NodeGates(n, 1)) > 0 || trip || sure
		expect(t, fmt.Sprint(n), impl.NodeOk(n) && stays && silent && !sees && !impl.NodeTakes(n, w), true)
		if up.Up {
			expect(t, fmt.Sprint(up), factOf(impl.NodeView(up), up.Me).Is != 0, true)
		}
	}
}

func TestPromise72AWordThatIsHeardAgainSaysNothingNew(t *testing.T) {
	eachStep(t, func(s step) string {
		if !s.hears {
			return ""
		}
		again, _ := impl.NodeHear(s.after, s.heard)
		return broken(!slices.Equal(impl.NodeView(again), impl.NodeView(s.after)), "sees another thing") +
			broken(again.Inc != s.after.Inc, "another number") + broken(len(again.Doubts) != len(s.after.Doubts), "other doubts")
	})
}

func TestPromise73WhichOfTwoWordsIsHeardFirst(t *testing.T) {
	d := &draws{2156}
	for _, n := range someNodes(2157, 5000) {
		var words [2]impl.Word
		for i := range words {
			words[i] = told(backKind, d.oneOf(mates(n.Me)), n.Me, "-")
			words[i].Facts = nearTable(d, n.Table, mates(n.Me), 0)
		}
		one, _ := impl.NodeHear(n, words[0])
		one, _ = impl.NodeHear(one, words[1])
		other, _ := impl.NodeHear(n, words[1])
		other, _ = impl.NodeHear(other, words[0])
		expectList(t, fmt.Sprint(words, " heard by ", n), one.Table, other.Table)
		if isIn(n) {
			expectList(t, fmt.Sprint(words, " heard by ", n), one.Table, joinByRank(n.Table, words[0].Facts, words[1].Facts))
		}
	}
}

func TestPromise74WhoIsAskedForAllTellsAll(t *testing.T) {
	d := &draws{2158}
	for _, n := range someNodes(2159, 3000) {
		for _, from := range mates(n.Me) {
			w := told(syncKind, from, n.Me, "-")
			w.Facts, w.Seq, w.About = nearTable(d, n.Table, siteNodes(n.Me), 0), d.between(0, 9), d.between(0, factMaxNode)
			after, words := impl.NodeHear(n, w)
			if !isIn(n) {
				expect(t, "nobody is there", len(words), 0)
				continue
			}
			want := impl.Word{Pool: lan, Kind: backKind, From: n.Me, To: from, About: n.Me, Coord: n.Coord, Facts: after.Table}
			expect(t, fmt.Sprint(w, " heard by ", n), same(words, []impl.Word{want}), true)
		}
	}
}

func TestPromise75AProbeDoesNotLastForEver(t *testing.T) {
	d := &draws{2160}
	probed := 0
	for _, n := range someNodes(2161, 4000) {
		if !isIn(n) || n.Probe.Node < 0 || n.Now+probeTicks > nodeMaxNow {
			continue
		}
		probed++
		after := n
		for range probeTicks {
			after, _ = impl.NodeTick(after, drawDraw(d))
		}
		expect(t, fmt.Sprint(n), after.Probe.Node == -1 || after.Probe.Seq != n.Probe.Seq || after.Probe.Since > n.Now, true)
	}
	expect(t, "enough are asked", probed > 1000, true)
}

func TestPromise76WhoIsSuspectedAndSaysNothingIsToldDead(t *testing.T) {
	d := &draws{2162}
	died := 0
	for _, n := range someNodes(2163, 3000) {
		if !isIn(n) || n.Now+doubtTicks+1 > nodeMaxNow {
			continue
		}
		after := n
		for range doubtTicks + 1 {
			after, _ = impl.NodeTick(after, drawDraw(d))
		}
		for _, doubt := range n.Doubts {
			died++
			f := factOf(after.Table, doubt.Node)
			expect(t, fmt.Sprint(f, " of ", n), f.Is == isDead && f.Inc == doubt.Inc, true)
		}
	}
	expect(t, "enough die", died > 1000, true)
}

func TestPromise77WhoSaysThatItLivesIsNotToldDead(t *testing.T) {
	saved := 0
	for _, n := range someNodes(2164, 4000) {
		for _, doubt := range n.Doubts {
			if !isIn(n) || doubt.Inc == factMaxInc {
				continue
			}
			saved++
			for _, from := range mates(n.Me) {
				w := told(backKind, from, n.Me, "-")
				w.Facts = []impl.Fact{fact(doubt.Node, doubt.Inc+1, isAlive)}
				after, _ := impl.NodeHear(n, w)
				_, doubted := doubtOf(after, doubt.Node)
				expect(t, fmt.Sprint(w, " heard by ", n), doubted, false)
				expect(t, fmt.Sprint(w, " heard by ", n), standing(after, doubt.Node), isAlive)
				later, _ := impl.NodeTick(after, 3)
				expect(t, fmt.Sprint(w, " heard by ", n), standing(later, doubt.Node) != isDead, true)
			}
		}
	}
	expect(t, "enough are saved", saved > 1000, true)
}

func TestPromise78OnlyAGatewayTellsOtherSites(t *testing.T) {
	d := &draws{2165}
	told, silent := 0, 0
	for _, n := range someNodes(2166, 8000) {
		draw := drawDraw(d)&^3 | d.oneOf([]int{0, 1, 1, 1, 2, 3})
		after, words := impl.NodeTick(n, draw)
		words = slices.DeleteFunc(words, func(w impl.Word) bool { return w.Pool != wan })
		site := n.Me / siteSize
		if draw&3 != 1 || !isIn(n) || n.Now == nodeMaxNow || !slices.Contains(impl.NodeGates(after, site), n.Me) {
			silent++
			expect(t, fmt.Sprint(n, " by ", draw), len(words), 0)
			continue
		}
		told++
		expect(t, fmt.Sprint(n, " by ", draw), len(words), 1)
		w := words[0]
		isIt := w.Kind == sumKind && w.To/siteSize == 1-site && w.About == n.Me && w.Seq == 0 && slices.Equal(w.Facts, after.Table)
		expect(t, fmt.Sprint(w, " of ", n, " by ", draw), isIt, true)
	}
	expect(t, "enough of both", told > 1000 && silent > 1000, true)
}

func TestPromise79WhoDoesNotAnswerIsAskedForByOthers(t *testing.T) {
	asked := 0
	eachStep(t, func(s step) string {
		asks := ofKind(s.words, askKind)
		if len(asks) == 0 {
			return ""
		}
		asked++
		p := s.before.Probe
		for _, w := range asks {
			if standing(s.after, w.To) != isAlive || w.To == p.Node || w.About != p.Node || w.Seq != p.Seq || len(w.Facts) > 0 || w.Pool != lan {
				return fmt.Sprint(w, " is wrong")
			}
		}
		early := s.after.Now-p.Since < askTicks
		again := p.Asked || !s.after.Probe.Asked || s.after.Probe.Seq != p.Seq
		twice := len(asks) > 2 || len(asks) == 2 && asks[0].To >= asks[1].To
		return broken(s.hears, "asks by hearing") + broken(early, "too early") + broken(again, "again") + broken(twice, "too many")
	})
	expect(t, "enough are asked", asked > 200, true)
	// From the beginning of a probe to its end others are asked once.
	n := meets(0, "1:0:alive,2:0:alive,3:0:alive")
	count := map[int]int{}
	for range 60 {
		var words []impl.Word
		n, words = impl.NodeTick(n, 3)
		for _, w := range ofKind(words, askKind) {
			count[w.Seq*10+w.To]++
		}
	}
	for key, times := range count {
		expect(t, fmt.Sprint(key), times, 1)
	}
	expect(t, "others were asked", len(count) > 2, true)
}

// handed is all that any function of nodes and views is handed.
type handed struct {
	Node impl.Node
	Word impl.Word
	Old  []impl.Fact
	Now  []impl.Fact
}

func nodeCalls(d *draws) map[string]func(h handed) []any {
	draw, to, most := drawDraw(d), d.between(-1, factMaxNode+1), d.between(-1, 5)
	both := func(n impl.Node, words []impl.Word) []any { return []any{n, words} }
	return map[string]func(h handed) []any{
		"NodeOk":    func(h handed) []any { impl.NodeOk(h.Node); return nil },
		"NodeTick":  func(h handed) []any { return both(impl.NodeTick(h.Node, draw)) },
		"NodeJoin":  func(h handed) []any { return both(impl.NodeJoin(h.Node, to)) },
		"NodeLeave": func(h handed) []any { return both(impl.NodeLeave(h.Node)) },
		"NodeView":  func(h handed) []any { return []any{impl.NodeView(h.Node)} },
		"NodeNear":  func(h handed) []any { return []any{impl.NodeNear(h.Node, most)} },
		"NodeTakes": func(h handed) []any { impl.NodeTakes(h.Node, h.Word); return nil },
		"NodeHear":  func(h handed) []any { return both(impl.NodeHear(h.Node, h.Word)) },
		"ViewNews":  func(h handed) []any { return []any{impl.ViewNews(h.Old, h.Now)} },
		"ViewCount": func(h handed) []any { impl.ViewCount(h.Now, to); return nil },
		"NodeTrip":  func(h handed) []any { impl.NodeTrip(h.Node, to); return nil },
		"NodeGates": func(h handed) []any { return []any{impl.NodeGates(h.Node, to)} },
		"NodeSure":  func(h handed) []any { impl.NodeSure(h.Node, to); return nil },
	}
}

func TestNodesAreNewMemory(t *testing.T) {
	d := &draws{2170}
	views := someTables(2171, 50)
	for _, n := range someNodes(2172, 1500) {
		h := handed{n, stir(d, drawFor(d, n)), views[d.between(0, len(views)-1)], views[d.between(0, len(views)-1)]}
		for what, call := range nodeCalls(d) {
			clean(t, what, h, call)
		}
	}
	bad := badTables()
	for _, n := range badNodes() {
		h := handed{n, told(syncKind, 0, 1, "2:9:suspect"), bad[d.between(0, len(bad)-1)], fullTable()}
		for what, call := range nodeCalls(d) {
			clean(t, what, h, call)
		}
	}
	// Words that are not ok, to a node that is.
	for _, c := range refusals() {
		w := plainNews(syncKind)
		c.make(&w)
		clean(t, c.what, handed{Node: plainNode(), Word: w}, nodeCalls(d)["NodeHear"])
	}
}

// Two calls with the same arguments answer the same, in lists of their own.
func TestNodesKeepNothingBetweenTwoCalls(t *testing.T) {
	d := &draws{2173}
	for _, n := range someNodes(2174, 500) {
		h := handed{n, drawFor(d, n), n.Table, impl.NodeView(n)}
		for what, call := range nodeCalls(d) {
			one, other := call(h), call(h)
			expect(t, what, fmt.Sprint(one), fmt.Sprint(other))
			expect(t, what+" shares", shared(one, other), "")
		}
	}
}
