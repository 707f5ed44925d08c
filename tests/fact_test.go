package tests

import (
	"fmt"
	"math"
	"regexp"
	"slices"
	"strconv"
	"strings"
	"testing"

	"loop.example/lightship/impl"
)

const (
	factMaxNode = 7
	factMaxInc  = 999
)

var factStands = []string{"", "alive", "suspect", "dead", "left"}

// factMark is no fact that any list of these tests holds.
var factMark = impl.Fact{Node: -77, Inc: -77, Is: -77}

func fact(node int, inc int, is int) impl.Fact {
	return impl.Fact{Node: node, Inc: inc, Is: is}
}

func gate(node int, inc int, is int) impl.Fact {
	return impl.Fact{Node: node, Inc: inc, Is: is, Gate: true}
}

// factRank is greater for what overrides, of facts of one node.
func factRank(f impl.Fact) int {
	rank := (f.Inc*5 + f.Is) * 2
	if f.Gate {
		rank++
	}
	return rank
}

// badFacts are each beyond a bound by one part alone, but for the last.
func badFacts() []impl.Fact {
	return []impl.Fact{
		fact(-1, 0, 1), fact(factMaxNode+1, 0, 1), gate(math.MinInt, 5, 2), gate(math.MaxInt, 5, 2),
		fact(0, -1, 1), fact(factMaxNode, factMaxInc+1, 4), gate(3, math.MinInt, 2), gate(3, math.MaxInt, 2),
		fact(0, 0, 0), fact(0, 0, 5), fact(7, 999, -1), gate(1, 1, math.MinInt), gate(1, 1, math.MaxInt),
		{}, gate(-1, -1, -1),
	}
}

// edgeFacts are ok, of many nodes, with each part at its bounds or beside them.
func edgeFacts() []impl.Fact {
	var list []impl.Fact
	for _, node := range []int{0, 1, 3, 4, factMaxNode} {
		for _, inc := range []int{0, 1, 2, 500, factMaxInc - 1, factMaxInc} {
			for is := 1; is <= 4; is++ {
				list = append(list, fact(node, inc, is), gate(node, inc, is))
			}
		}
	}
	return list
}

// drawFact draws few numbers often, so that many are the same but for one part.
func drawFact(d *draws, node int) impl.Fact {
	inc := d.oneOf([]int{0, 0, 1, 1, 2, d.between(0, factMaxInc), factMaxInc})
	return impl.Fact{Node: node, Inc: inc, Is: d.between(1, 4), Gate: d.between(0, 1) == 1}
}

func drawTable(d *draws) []impl.Fact {
	var t []impl.Fact
	one := d.between(1, 4)
	for node := 0; node <= factMaxNode; node++ {
		if d.between(0, 4) < one {
			t = append(t, drawFact(d, node))
		}
	}
	return t
}

func fullTable() []impl.Fact {
	var t []impl.Fact
	for node := 0; node <= factMaxNode; node++ {
		t = append(t, gate(node, factMaxInc, 1+node%4))
	}
	return t
}

func someTables(seed uint64, many int) [][]impl.Fact {
	list := [][]impl.Fact{nil, {}, {fact(0, 0, 1)}, {gate(7, 999, 4)}, {fact(0, 0, 1), gate(7, 999, 4)}, fullTable()}
	d := &draws{seed}
	for range many {
		list = append(list, drawTable(d))
	}
	return list
}

func badTables() [][]impl.Fact {
	list := [][]impl.Fact{
		{fact(1, 0, 1), fact(0, 0, 1)},
		{fact(1, 0, 1), fact(1, 0, 1)},
		{fact(1, 0, 1), gate(1, 0, 1)},
		{fact(1, 0, 1), fact(1, 1, 2)},
		{fact(0, 0, 1), fact(3, 0, 1), fact(2, 0, 1), fact(4, 0, 1)},
		{fact(5, 1, 1), fact(6, 1, 1), fact(6, 0, 1)},
		append(fullTable(), fact(7, 0, 1)),
		append(fullTable(), fact(8, 0, 1)),
		append([]impl.Fact{fact(-1, 0, 1)}, fullTable()...),
	}
	for _, f := range badFacts() {
		list = append(list, []impl.Fact{f}, []impl.Fact{fact(0, 0, 1), f}, []impl.Fact{f, fact(7, 0, 1)})
	}
	return list
}

// joinByRank joins in another way than the program: of each node the fact with the greatest rank.
func joinByRank(lists ...[]impl.Fact) []impl.Fact {
	var best [factMaxNode + 1]impl.Fact
	for _, list := range lists {
		for _, f := range list {
			if best[f.Node].Is == 0 || factRank(f) > factRank(best[f.Node]) {
				best[f.Node] = f
			}
		}
	}
	return slices.DeleteFunc(best[:], func(f impl.Fact) bool { return f.Is == 0 })
}

// holds says whether a table has a fact, or one of its node that overrides it.
func holds(t []impl.Fact, f impl.Fact) bool {
	return slices.ContainsFunc(t, func(g impl.Fact) bool { return g == f || g.Node == f.Node && factRank(g) > factRank(f) })
}

func tableByHand(t []impl.Fact) string {
	var parts []string
	for _, f := range t {
		star := ""
		if f.Gate {
			star = "*"
		}
		parts = append(parts, fmt.Sprintf("%d:%d:%s%s", f.Node, f.Inc, factStands[f.Is], star))
	}
	if parts == nil {
		return "-"
	}
	return strings.Join(parts, ",")
}

var factForm = regexp.MustCompile(`^([0-7]):(0|[1-9][0-9]{0,2}):(alive|suspect|dead|left)(\*?)$`)

// isTableText says in another way than the program whether a text is that of a table.
func isTableText(text string) bool {
	if text == "-" {
		return true
	}
	last := -1
	for _, piece := range strings.Split(text, ",") {
		parts := factForm.FindStringSubmatch(piece)
		if parts == nil {
			return false
		}
		node, _ := strconv.Atoi(parts[1])
		if node <= last {
			return false
		}
		last = node
	}
	return true
}

func TestFactsAreOkWithinTheirBounds(t *testing.T) {
	for _, f := range edgeFacts() {
		expect(t, fmt.Sprint(f), impl.FactOk(f), true)
	}
	for _, f := range badFacts() {
		expect(t, fmt.Sprint(f), impl.FactOk(f), false)
	}
	for node := -2; node <= factMaxNode+2; node++ {
		for _, inc := range []int{-1, 0, factMaxInc, factMaxInc + 1} {
			for is := -1; is <= 6; is++ {
				ok := node >= 0 && node <= 7 && inc >= 0 && inc <= 999 && is >= 1 && is <= 4
				expect(t, fmt.Sprint(node, inc, is), impl.FactOk(fact(node, inc, is)), ok)
				expect(t, fmt.Sprint(node, inc, is, "with gate"), impl.FactOk(gate(node, inc, is)), ok)
			}
		}
	}
}

func TestWhatOverridesByHand(t *testing.T) {
	for _, c := range []struct {
		f, g impl.Fact
		over bool
	}{
		{fact(2, 5, 1), fact(2, 4, 4), true},
		{fact(2, 5, 1), gate(2, 4, 4), true},
		{fact(2, 4, 4), fact(2, 5, 1), false},
		{fact(2, 5, 2), fact(2, 5, 1), true},
		{fact(2, 5, 3), fact(2, 5, 2), true},
		{fact(2, 5, 4), fact(2, 5, 3), true},
		{fact(2, 5, 2), gate(2, 5, 1), true},
		{gate(2, 5, 1), fact(2, 5, 2), false},
		{gate(2, 5, 2), fact(2, 5, 2), true},
		{fact(2, 5, 2), gate(2, 5, 2), false},
		{gate(2, 5, 2), gate(2, 5, 2), false},
		{fact(2, 5, 2), fact(2, 5, 2), false},
		{fact(3, 999, 4), fact(2, 0, 1), false},
		{fact(2, 999, 4), fact(3, 0, 1), false},
		{fact(7, 999, 1), fact(7, 998, 4), true},
		{fact(0, 1, 1), gate(0, 0, 4), true},
	} {
		expect(t, fmt.Sprint(c.f, " over ", c.g), impl.FactOver(c.f, c.g), c.over)
	}
}

func TestPromise13JustOneOverridesTheOther(t *testing.T) {
	for _, f := range edgeFacts() {
		for _, g := range edgeFacts() {
			there, back := impl.FactOver(f, g), impl.FactOver(g, f)
			if f.Node != g.Node || f == g {
				expect(t, fmt.Sprint("neither ", f, g), there || back, false)
				continue
			}
			expect(t, fmt.Sprint("one alone ", f, g), there != back, true)
			expect(t, fmt.Sprint("which ", f, g), there, factRank(f) > factRank(g))
		}
		for _, bad := range badFacts() {
			expect(t, fmt.Sprint("over what is not ok ", f, bad), impl.FactOver(f, bad), false)
			expect(t, fmt.Sprint("what is not ok over ", bad, f), impl.FactOver(bad, f), false)
		}
	}
	for _, f := range badFacts() {
		for _, g := range badFacts() {
			expect(t, fmt.Sprint("neither ok ", f, g), impl.FactOver(f, g), false)
		}
	}
}

func TestTablesAreOkInTheirOrder(t *testing.T) {
	for _, list := range someTables(31, 500) {
		expect(t, fmt.Sprint(list), impl.TableOk(list), true)
	}
	for _, list := range badTables() {
		expect(t, fmt.Sprint(list), impl.TableOk(list), false)
	}
}

func TestJoinsByHand(t *testing.T) {
	a := []impl.Fact{fact(1, 2, 1), gate(3, 0, 3), fact(4, 7, 4)}
	b := []impl.Fact{fact(0, 1, 4), fact(1, 2, 2), fact(3, 0, 1), gate(4, 7, 4), fact(7, 0, 1)}
	want := []impl.Fact{fact(0, 1, 4), fact(1, 2, 2), gate(3, 0, 3), gate(4, 7, 4), fact(7, 0, 1)}
	expectList(t, "both", impl.TableJoin(a, b), want)
	expectList(t, "with nothing", impl.TableJoin(a, nil), a)
	expectList(t, "nothing with it", impl.TableJoin([]impl.Fact{}, a), a)
	expectList(t, "nothing at all", impl.TableJoin(nil, nil), nil)
	for _, bad := range badTables() {
		expectList(t, fmt.Sprint("with ", bad), impl.TableJoin(a, bad), nil)
		expectList(t, fmt.Sprint(bad, " with it"), impl.TableJoin(bad, a), nil)
		expectList(t, fmt.Sprint(bad, " with nothing"), impl.TableJoin(bad, nil), nil)
		expectList(t, fmt.Sprint("nothing with ", bad), impl.TableJoin(nil, bad), nil)
	}
}

func TestPromise14ItDoesNotMatterWhoTellsWhom(t *testing.T) {
	tables := someTables(14, 150)
	for _, a := range tables {
		for _, b := range tables {
			what := fmt.Sprint(a, " and ", b)
			there := impl.TableJoin(a, b)
			expectList(t, what, there, impl.TableJoin(b, a))
			expectList(t, what, there, joinByRank(a, b))
		}
	}
}

func TestPromise15InWhichOrderThreeTellEachOther(t *testing.T) {
	tables := someTables(15, 30)
	for _, a := range tables {
		for _, b := range tables {
			for _, c := range tables {
				what := fmt.Sprint(a, b, c)
				first := impl.TableJoin(impl.TableJoin(a, b), c)
				expectList(t, what, first, impl.TableJoin(a, impl.TableJoin(b, c)))
				expectList(t, what, first, impl.TableJoin(impl.TableJoin(a, c), b))
				expectList(t, what, first, joinByRank(a, b, c))
			}
		}
	}
}

func TestPromise16WhatWasToldOnceChangesNothing(t *testing.T) {
	tables := someTables(16, 100)
	for _, a := range tables {
		for _, b := range tables {
			both := impl.TableJoin(a, b)
			for _, again := range [][]impl.Fact{a, b, both} {
				what := fmt.Sprint(a, " and ", b, ", and again ", again)
				expectList(t, what, impl.TableJoin(both, again), both)
				expectList(t, what, impl.TableJoin(again, both), both)
			}
		}
	}
}

func TestPutsByHand(t *testing.T) {
	table := []impl.Fact{fact(1, 2, 1), gate(3, 0, 3)}
	for _, c := range []struct {
		f    impl.Fact
		want []impl.Fact
		new  bool
	}{
		{fact(0, 0, 1), []impl.Fact{fact(0, 0, 1), fact(1, 2, 1), gate(3, 0, 3)}, true},
		{fact(2, 0, 4), []impl.Fact{fact(1, 2, 1), fact(2, 0, 4), gate(3, 0, 3)}, true},
		{gate(7, 999, 4), []impl.Fact{fact(1, 2, 1), gate(3, 0, 3), gate(7, 999, 4)}, true},
		{fact(1, 2, 1), table, false},
		{fact(1, 1, 4), table, false},
		{gate(1, 2, 1), []impl.Fact{gate(1, 2, 1), gate(3, 0, 3)}, true},
		{fact(3, 0, 3), table, false},
		{fact(3, 0, 4), []impl.Fact{fact(1, 2, 1), fact(3, 0, 4)}, true},
		{fact(3, 1, 1), []impl.Fact{fact(1, 2, 1), fact(3, 1, 1)}, true},
		{fact(8, 0, 1), nil, false},
		{fact(1, 1000, 1), nil, false},
	} {
		got, isNew := impl.TablePut(table, c.f)
		expectList(t, fmt.Sprint(c.f), got, c.want)
		expect(t, fmt.Sprint(c.f), isNew, c.new)
	}
}

func TestPutsOfWhatIsNotOkAreNothing(t *testing.T) {
	for _, bad := range badFacts() {
		for _, table := range someTables(32, 20) {
			got, isNew := impl.TablePut(table, bad)
			expectList(t, fmt.Sprint(table, bad), got, nil)
			expect(t, fmt.Sprint(table, bad), isNew, false)
		}
	}
	for _, bad := range badTables() {
		got, isNew := impl.TablePut(bad, fact(2, 3, 1))
		expectList(t, fmt.Sprint(bad), got, nil)
		expect(t, fmt.Sprint(bad), isNew, false)
	}
}

// eachPut calls a check with each of many tables, a fact, and both answers of TablePut.
func eachPut(seed uint64, check func(table []impl.Fact, f impl.Fact, behind []impl.Fact, isNew bool)) {
	d := &draws{seed}
	for _, table := range someTables(seed, 300) {
		facts := append(edgeFacts(), table...)
		for range 20 {
			facts = append(facts, drawFact(d, d.between(0, factMaxNode)))
		}
		for _, f := range facts {
			behind, isNew := impl.TablePut(table, f)
			check(table, f, behind, isNew)
		}
	}
}

func TestPromise17NothingThatIsKnownIsLost(t *testing.T) {
	eachPut(17, func(table []impl.Fact, f impl.Fact, behind []impl.Fact, isNew bool) {
		what := fmt.Sprint(table, " with ", f)
		for _, g := range append([]impl.Fact{f}, table...) {
			expect(t, fmt.Sprint(what, " holds ", g), holds(behind, g), true)
		}
		expect(t, what+" is another one", isNew, !slices.Equal(table, behind))
		expect(t, what+" is a table", impl.TableOk(behind), true)
		expectList(t, what, behind, joinByRank(table, []impl.Fact{f}))
	})
}

func TestPromise18HowNewATableIsGrows(t *testing.T) {
	eachPut(18, func(table []impl.Fact, f impl.Fact, behind []impl.Fact, isNew bool) {
		was, is := impl.TableVersion(table), impl.TableVersion(behind)
		if isNew && is <= was || !isNew && is != was {
			t.Errorf("%v with %v: %d behind %d, new %v", table, f, is, was, isNew)
		}
	})
}

func TestVersionsByHand(t *testing.T) {
	for _, c := range []struct {
		table []impl.Fact
		want  int
	}{
		{nil, 0},
		{[]impl.Fact{fact(0, 0, 1)}, 3},
		{[]impl.Fact{gate(0, 0, 1)}, 4},
		{[]impl.Fact{fact(7, 0, 4)}, 9},
		{[]impl.Fact{fact(3, 1, 2)}, 21},
		{[]impl.Fact{gate(7, 999, 4)}, 15994},
		{[]impl.Fact{fact(1, 2, 1), gate(3, 0, 3)}, 35 + 8},
		{fullTable(), 8*(2+999*16) + 2*(2+4+6+8)},
	} {
		expect(t, fmt.Sprint(c.table), impl.TableVersion(c.table), c.want)
	}
	for _, bad := range badTables() {
		expect(t, fmt.Sprint(bad), impl.TableVersion(bad), 0)
	}
}

func TestPromise67WhoHeardBothHasAllOfBoth(t *testing.T) {
	tables := someTables(67, 60)
	for i, a := range tables {
		for j, b := range tables {
			who := tables[(i*7+j)%len(tables)]
			heard := impl.TableJoin(impl.TableJoin(who, a), b)
			for _, f := range impl.TableJoin(a, b) {
				expect(t, fmt.Sprint(who, " heard ", a, b, " and holds ", f), holds(heard, f), true)
			}
		}
	}
}

func TestPromise68OneFactIsToldAsATableOfOne(t *testing.T) {
	eachPut(68, func(table []impl.Fact, f impl.Fact, behind []impl.Fact, isNew bool) {
		expectList(t, fmt.Sprint(table, " with ", f), behind, impl.TableJoin(table, []impl.Fact{f}))
	})
}

func TestWhatATableSaysOfANode(t *testing.T) {
	for _, table := range someTables(33, 200) {
		for _, node := range []int{math.MinInt, -1, 0, 1, 2, 3, 4, 5, 6, 7, 8, math.MaxInt} {
			var want impl.Fact
			at := slices.IndexFunc(table, func(f impl.Fact) bool { return f.Node == node })
			if at >= 0 {
				want = table[at]
			}
			got, known := impl.TableOf(table, node)
			expect(t, fmt.Sprint(node, " of ", table), got, want)
			expect(t, fmt.Sprint(node, " of ", table), known, at >= 0)
		}
	}
	for _, bad := range badTables() {
		for _, f := range bad {
			got, known := impl.TableOf(bad, f.Node)
			expect(t, fmt.Sprint(f.Node, " of ", bad), got, impl.Fact{})
			expect(t, fmt.Sprint(f.Node, " of ", bad), known, false)
		}
	}
}

func TestPromise20GatewaysAreTheLeastThatMayBeAndLive(t *testing.T) {
	tables := append(someTables(20, 300), []impl.Fact{gate(0, 3, 2), gate(1, 0, 1), fact(2, 0, 1), gate(3, 9, 1), gate(4, 0, 3), gate(5, 0, 4), gate(7, 999, 1)})
	for _, table := range tables {
		var all []int
		for _, f := range table {
			if f.Gate && f.Is == 1 {
				all = append(all, f.Node)
			}
		}
		for _, n := range []int{math.MinInt, -1, 0, 1, 2, len(all), len(all) + 1, 9, math.MaxInt} {
			expectList(t, fmt.Sprint(n, " of ", table), impl.TableGates(table, n), all[:min(max(n, 0), len(all))])
		}
	}
	expectList(t, "by hand", impl.TableGates(tables[len(tables)-1], 2), []int{1, 3})
	for _, bad := range badTables() {
		expectList(t, fmt.Sprint(bad), impl.TableGates(bad, 9), nil)
	}
	expectList(t, "one node twice", impl.TableGates([]impl.Fact{gate(1, 0, 1), gate(1, 0, 1)}, 2), nil)
}

func TestPromise19ATableIsReadAsItWasWritten(t *testing.T) {
	for _, table := range append(someTables(19, 2000), []impl.Fact{fact(0, 10, 2), gate(1, 100, 1)}) {
		text := impl.TableText(table)
		expect(t, fmt.Sprint(table), text, tableByHand(table))
		got, ok := impl.TableParse(text)
		expectList(t, text, got, table)
		expect(t, text, ok, true)
	}
	for _, bad := range badTables() {
		expect(t, fmt.Sprint(bad), impl.TableText(bad), "")
	}
}

// sameTextOrNone holds that a text is read just if it is one of a table, and then written as it stood.
func sameTextOrNone(t *testing.T, text string) {
	t.Helper()
	table, ok := impl.TableParse(text)
	if ok != isTableText(text) {
		t.Fatalf("%q: got %v", text, ok)
	}
	if ok {
		expect(t, "written again", impl.TableText(table), text)
	} else {
		expectList(t, text, table, nil)
	}
}

func TestPromise19WhatIsReadIsWrittenSo(t *testing.T) {
	const bytes = "0189-+*:, aAtx\n\x00\xff"
	for _, text := range []string{"-", "0:0:alive", "7:999:left*", "1:20:suspect,2:0:dead*", "0:1:alive*,3:100:suspect*,4:9:left"} {
		sameTextOrNone(t, text)
		for _, edit := range edits(text, bytes) {
			sameTextOrNone(t, edit)
			for _, twice := range edits(edit, "0*,:") {
				sameTextOrNone(t, twice)
			}
		}
	}
}

func TestTextsThatAreNoTables(t *testing.T) {
	for _, text := range []string{
		"", " ", "--", "- ", " -", "-,-", "0", "0:0", "0:0:", ":0:alive", "0::alive", "::", "0:0:alive:", "0:0:0:alive", "*",
		"00:0:alive", "01:0:alive", "0:00:alive", "0:01:alive", "0:0999:alive",
		"+1:0:alive", "-1:0:alive", "1:+2:alive", "1:-2:alive", "1:-0:alive", "-0:0:alive",
		"8:0:alive", "10:0:alive", "0:1000:alive", "0:99999999999999999999999999:alive", "18446744073709551616:0:alive", "0:18446744073709551617:alive",
		"0:0:Alive", "0:0:ALIVE", "0:0:aliv", "0:0:alivee", "0:0:1", "0:0:gone", "0:0: alive", "0:0:alive ", "0:0:alive suspect",
		"0:0:alive**", "0:0:*alive", "0:0:*", "*0:0:alive", "0:0*:alive",
		"0:0:alive,", ",0:0:alive", "0:0:alive,,1:0:alive", "0:0:alive, 1:0:alive", "0:0:alive;1:0:alive", "0:0:alive,-", "-,0:0:alive",
		"1:0:alive,0:0:alive", "1:0:alive,1:0:alive", "1:0:alive,1:1:alive", "0:0:alive,1:0:alive,1:0:dead*",
		"0x1:0:alive", "1_0:0:alive", "0:1_0:alive", "1.0:0:alive", "1e0:0:alive", "0:0:alive\n", "\x000:0:alive", "٣:0:alive",
		strings.Repeat("0:0:alive,", 100000), strings.Repeat("9", 100000) + ":0:alive", strings.Repeat(",", 100000),
	} {
		table, ok := impl.TableParse(text)
		if ok || len(table) != 0 {
			t.Errorf("%.60q: got %v, %v", text, table, ok)
		}
	}
}

func TestTablesAreNewMemory(t *testing.T) {
	d := &draws{34}
	for _, a := range someTables(35, 200) {
		b, f := drawTable(d), drawFact(d, d.between(0, factMaxNode))
		one, two := roomy(a, factMark), roomy(b, factMark)
		join := impl.TableJoin(one, two)
		apart(t, "join", join, one)
		apart(t, "join", join, two)
		put, _ := impl.TablePut(one, f)
		apart(t, "put", put, one)
		apart(t, "put", put, join)
		impl.TableOk(one)
		impl.TableOf(one, f.Node)
		impl.TableText(one)
		impl.TableVersion(one)
		apart(t, "gates", impl.TableGates(one, 9), impl.TableGates(one, 9))
		untouched(t, "first", one, a, factMark)
		untouched(t, "second", two, b, factMark)
	}
	text := tableByHand(fullTable())
	first, _ := impl.TableParse(text)
	second, _ := impl.TableParse(text)
	apart(t, "parse", first, second)
}

func TestBadTablesAreNotWrittenInto(t *testing.T) {
	for _, bad := range badTables() {
		list := roomy(bad, factMark)
		impl.TableOk(list)
		impl.TablePut(list, fact(2, 1, 1))
		impl.TableJoin(list, list)
		impl.TableOf(list, 2)
		impl.TableGates(list, 2)
		impl.TableText(list)
		impl.TableVersion(list)
		untouched(t, "bad table", list, bad, factMark)
	}
}
