package tests

import (
	"fmt"
	"math"
	"slices"
	"testing"

	"loop.example/lightship/impl"
)

const castTimes = 4

var itemMark = impl.Item{Fact: factMark, Left: -77}

func item(f impl.Fact, left int) impl.Item {
	return impl.Item{Fact: f, Left: left}
}

func itemsOf(table []impl.Fact, d *draws) []impl.Item {
	var list []impl.Item
	for _, f := range table {
		list = append(list, item(f, d.between(1, castTimes)))
	}
	return list
}

func someItems(seed uint64, many int) [][]impl.Item {
	list := [][]impl.Item{nil, {}}
	d := &draws{seed}
	for _, table := range someTables(seed+1000, many) {
		list = append(list, itemsOf(table, d))
	}
	var full []impl.Item
	for _, f := range fullTable() {
		full = append(full, item(f, castTimes))
	}
	return append(list, full)
}

func badItems() [][]impl.Item {
	list := [][]impl.Item{
		{item(fact(0, 0, 1), 0)}, {item(fact(0, 0, 1), castTimes+1)}, {item(fact(0, 0, 1), -1)},
		{item(gate(7, 999, 4), math.MinInt)}, {item(gate(7, 999, 4), math.MaxInt)},
		{item(fact(0, 0, 1), 4), item(fact(1, 0, 1), 5)},
		{item(fact(0, 0, 1), 0), item(fact(1, 0, 1), 1)},
	}
	for _, bad := range badTables() {
		var items []impl.Item
		for _, f := range bad {
			items = append(items, item(f, 2))
		}
		list = append(list, items)
	}
	return list
}

// takeOneByOne takes in another way than the program: it looks through all for each one that it takes.
func takeOneByOne(list []impl.Item, most int) ([]impl.Fact, []impl.Item) {
	left := slices.Clone(list)
	took := make([]bool, len(list))
	for n := 0; n < most && n < len(list); n++ {
		best := -1
		for i := range list {
			if !took[i] && (best < 0 || list[i].Left > list[best].Left) {
				best = i
			}
		}
		took[best] = true
		left[best].Left--
	}
	var facts []impl.Fact
	for i := range list {
		if took[i] {
			facts = append(facts, list[i].Fact)
		}
	}
	return facts, slices.DeleteFunc(left, func(i impl.Item) bool { return i.Left == 0 })
}

func TestItemsAreOkWithinTheirBounds(t *testing.T) {
	for _, list := range someItems(51, 300) {
		expect(t, fmt.Sprint(list), impl.CastOk(list), true)
	}
	for left := 1; left <= castTimes; left++ {
		expect(t, fmt.Sprint(left), impl.CastOk([]impl.Item{item(gate(0, 0, 4), left)}), true)
	}
	for _, list := range badItems() {
		expect(t, fmt.Sprint(list), impl.CastOk(list), false)
	}
}

func TestPutsToItemsByHand(t *testing.T) {
	list := []impl.Item{item(fact(1, 2, 1), 3), item(gate(3, 0, 3), 1)}
	for _, c := range []struct {
		f    impl.Fact
		want []impl.Item
	}{
		{fact(0, 0, 1), []impl.Item{item(fact(0, 0, 1), 4), list[0], list[1]}},
		{fact(2, 0, 1), []impl.Item{list[0], item(fact(2, 0, 1), 4), list[1]}},
		{gate(7, 999, 4), []impl.Item{list[0], list[1], item(gate(7, 999, 4), 4)}},
		{fact(1, 2, 1), list},
		{fact(1, 1, 4), list},
		{gate(1, 2, 1), []impl.Item{item(gate(1, 2, 1), 4), list[1]}},
		{fact(1, 2, 2), []impl.Item{item(fact(1, 2, 2), 4), list[1]}},
		{fact(3, 0, 3), list},
		{fact(3, 1, 1), []impl.Item{list[0], item(fact(3, 1, 1), 4)}},
	} {
		expectList(t, fmt.Sprint(c.f), impl.CastPut(list, c.f), c.want)
	}
	expectList(t, "to nothing", impl.CastPut(nil, fact(5, 0, 1)), []impl.Item{item(fact(5, 0, 1), 4)})
}

func TestPutsToItemsOfWhatIsNotOkAreNothing(t *testing.T) {
	for _, bad := range badFacts() {
		for _, list := range someItems(52, 20) {
			expectList(t, fmt.Sprint(list, bad), impl.CastPut(list, bad), nil)
		}
	}
	for _, bad := range badItems() {
		expectList(t, fmt.Sprint(bad), impl.CastPut(bad, fact(2, 0, 1)), nil)
		for _, most := range []int{-1, 0, 1, 9} {
			facts, left := impl.CastTake(bad, most)
			expectList(t, fmt.Sprint(bad), facts, nil)
			expectList(t, fmt.Sprint(bad), left, nil)
		}
	}
}

// eachCastPut calls a check with each of many lists of items, a fact, and the answer of CastPut.
func eachCastPut(seed uint64, check func(list []impl.Item, f impl.Fact, behind []impl.Item)) {
	d := &draws{seed}
	for _, list := range someItems(seed, 300) {
		facts := edgeFacts()
		for _, i := range list {
			facts = append(facts, i.Fact)
		}
		for range 20 {
			facts = append(facts, drawFact(d, d.between(0, factMaxNode)))
		}
		for _, f := range facts {
			check(list, f, impl.CastPut(list, f))
		}
	}
}

func TestPromise24OnlyTheNewestIsToldOn(t *testing.T) {
	eachCastPut(24, func(list []impl.Item, f impl.Fact, behind []impl.Item) {
		what := fmt.Sprint(list, " with ", f)
		var was, is []impl.Item
		for _, i := range list {
			if i.Fact.Node == f.Node {
				was = append(was, i)
			}
		}
		for _, i := range behind {
			if i.Fact.Node == f.Node {
				is = append(is, i)
			}
		}
		expect(t, what+" has one", len(is), 1)
		expect(t, what+" not overridden", factRank(f) > factRank(is[0].Fact), false)
		if was == nil || factRank(f) > factRank(was[0].Fact) {
			was = []impl.Item{item(f, castTimes)}
		}
		expectList(t, what, is, was)
		expect(t, what+" is ok", impl.CastOk(behind), true)
	})
}

func TestPromise69WhatIsToldOnOfOthersStays(t *testing.T) {
	eachCastPut(69, func(list []impl.Item, f impl.Fact, behind []impl.Item) {
		ofNode := func(i impl.Item) bool { return i.Fact.Node == f.Node }
		others := slices.DeleteFunc(slices.Clone(list), ofNode)
		expectList(t, fmt.Sprint(list, " with ", f), slices.DeleteFunc(behind, ofNode), others)
	})
}

func TestTakesByHand(t *testing.T) {
	list := []impl.Item{item(fact(0, 5, 1), 1), item(gate(2, 0, 2), 4), item(fact(3, 0, 1), 2), item(fact(4, 1, 4), 4), item(fact(7, 0, 3), 2)}
	for _, c := range []struct {
		most int
		took []int
		left []int
	}{
		{math.MinInt, nil, []int{1, 4, 2, 4, 2}},
		{-1, nil, []int{1, 4, 2, 4, 2}},
		{0, nil, []int{1, 4, 2, 4, 2}},
		{1, []int{2}, []int{1, 3, 2, 4, 2}},
		{2, []int{2, 4}, []int{1, 3, 2, 3, 2}},
		{3, []int{2, 3, 4}, []int{1, 3, 1, 3, 2}},
		{4, []int{2, 3, 4, 7}, []int{1, 3, 1, 3, 1}},
		{5, []int{0, 2, 3, 4, 7}, []int{0, 3, 1, 3, 1}},
		{6, []int{0, 2, 3, 4, 7}, []int{0, 3, 1, 3, 1}},
		{math.MaxInt, []int{0, 2, 3, 4, 7}, []int{0, 3, 1, 3, 1}},
	} {
		var took []impl.Fact
		var left []impl.Item
		for i, one := range list {
			if slices.Contains(c.took, one.Fact.Node) {
				took = append(took, one.Fact)
			}
			if c.left[i] > 0 {
				left = append(left, item(one.Fact, c.left[i]))
			}
		}
		facts, rest := impl.CastTake(list, c.most)
		expectList(t, fmt.Sprint(c.most, " taken"), facts, took)
		expectList(t, fmt.Sprint(c.most, " left"), rest, left)
	}
}

func TestPromise25EachFactIsToldAsOftenAsItIsToBe(t *testing.T) {
	d := &draws{25}
	for _, list := range someItems(25, 500) {
		told := map[impl.Fact]int{}
		rest := list
		for round := 0; len(rest) > 0; round++ {
			if round > 100 {
				t.Fatalf("%v is told for ever", list)
			}
			var facts []impl.Fact
			facts, rest = impl.CastTake(rest, d.oneOf([]int{1, 1, 2, 3, 9, math.MaxInt}))
			for _, f := range facts {
				told[f]++
			}
		}
		for _, i := range list {
			expect(t, fmt.Sprint(i, " of ", list), told[i.Fact], i.Left)
			delete(told, i.Fact)
		}
		expect(t, fmt.Sprint("told of ", list, " besides"), len(told), 0)
	}
}

func TestPromise26WhatWasToldLeastIsToldFirst(t *testing.T) {
	for _, list := range someItems(26, 2000) {
		for most := -1; most <= len(list)+1; most++ {
			what := fmt.Sprint(most, " of ", list)
			facts, rest := impl.CastTake(list, most)
			least := castTimes
			for _, i := range list {
				if slices.Contains(facts, i.Fact) {
					least = min(least, i.Left)
				}
			}
			for _, i := range list {
				if !slices.Contains(facts, i.Fact) && len(facts) > 0 && i.Left > least {
					t.Errorf("%s: %v is left out", what, i)
				}
			}
			expect(t, what+" taken", len(facts), min(max(most, 0), len(list)))
			wantFacts, wantRest := takeOneByOne(list, most)
			expectList(t, what, facts, wantFacts)
			expectList(t, what, rest, wantRest)
		}
	}
}

func TestItemsAreNewMemory(t *testing.T) {
	d := &draws{53}
	for _, was := range someItems(54, 200) {
		list := roomy(was, itemMark)
		impl.CastOk(list)
		behind := impl.CastPut(list, drawFact(d, d.between(0, factMaxNode)))
		apart(t, "put", behind, list)
		for _, most := range []int{-1, 0, 1, 9} {
			facts, left := impl.CastTake(list, most)
			again, rest := impl.CastTake(list, most)
			apart(t, "left", left, list)
			apart(t, "left", left, rest)
			apart(t, "taken", facts, again)
		}
		untouched(t, "items", list, was, itemMark)
	}
	for _, bad := range badItems() {
		list := roomy(bad, itemMark)
		impl.CastOk(list)
		impl.CastPut(list, fact(2, 0, 1))
		impl.CastTake(list, 2)
		untouched(t, "bad items", list, bad, itemMark)
	}
}
