package tests

import (
	"fmt"
	"math"
	"testing"

	"loop.example/lightship/impl"
)

func newsList(old string, now string) string {
	return fmt.Sprint(impl.ViewNews(table(old), table(now)))
}

func TestNewsByHand(t *testing.T) {
	expect(t, "of nothing", newsList("-", "-"), "[]")
	expect(t, "all is new", newsList("-", "0:0:alive*,7:999:left"), "[{{0 0 1 true} 0} {{7 999 4 false} 0}]")
	expect(t, "nothing is", newsList("0:0:alive*,7:999:left", "-"), "[]")
	expect(t, "another number", newsList("1:2:dead", "1:3:alive"), "[{{1 3 1 false} 3}]")
	expect(t, "another stand", newsList("1:2:alive", "1:2:suspect"), "[{{1 2 2 false} 1}]")
	expect(t, "another gate", newsList("1:2:left", "1:2:left*"), "[{{1 2 4 true} 4}]")
	expect(t, "less is another one, too", newsList("1:2:suspect*", "1:1:left"), "[{{1 1 4 false} 2}]")
	expect(t, "what is the same is left out", newsList("0:0:alive,2:0:alive,4:1:dead", "0:0:alive,1:5:left,2:0:dead,4:1:dead,6:0:suspect"),
		"[{{1 5 4 false} 0} {{2 0 3 false} 1} {{6 0 2 false} 0}]")
}

func TestNewsOfWhatIsNoTableAreNothing(t *testing.T) {
	for _, bad := range badTables() {
		for _, good := range [][]impl.Fact{nil, fullTable(), table("0:1:alive,3:0:left*")} {
			expect(t, fmt.Sprint(bad), len(impl.ViewNews(bad, good)), 0)
			expect(t, fmt.Sprint(bad), len(impl.ViewNews(good, bad)), 0)
		}
		expect(t, fmt.Sprint(bad), len(impl.ViewNews(bad, bad)), 0)
		for is := -1; is <= 5; is++ {
			expect(t, fmt.Sprint(bad), impl.ViewCount(bad, is), 0)
		}
	}
}

func TestCountsByHand(t *testing.T) {
	view := table("0:0:alive,1:3:alive*,2:0:dead,3:9:left,4:1:alive,6:0:suspect,7:7:dead*")
	for is, want := range map[int]int{math.MinInt: 0, -1: 0, 0: 0, 1: 3, 2: 1, 3: 2, 4: 1, 5: 0, math.MaxInt: 0} {
		expect(t, fmt.Sprint(is), impl.ViewCount(view, is), want)
		expect(t, fmt.Sprint(is), impl.ViewCount(nil, is), 0)
	}
}

func TestTripsToPlacesByHand(t *testing.T) {
	n := plainNode()
	for node := -2; node <= factMaxNode+2; node++ {
		trip, known := impl.NodeTrip(n, node)
		expect(t, fmt.Sprint(node, " known"), known, node == 0 || node == 3)
		expect(t, fmt.Sprint("to ", node), trip, map[int]int{0: 56, 3: 5}[node])
		trip, known = impl.NodeTrip(down(0, true), node)
		expect(t, "of one that is down", trip == 0 && !known, true)
	}
	gone, _ := impl.NodeLeave(n)
	trip, known := impl.NodeTrip(gone, 0)
	expect(t, "of one that is gone", trip == 56 && known, true)
}

func TestGatesByHand(t *testing.T) {
	n := meets(1, "0:0:dead*,2:0:alive,3:0:alive*")
	n.Others = []impl.Foreign{{Site: 1, Facts: table("4:0:suspect*,5:0:alive*,6:0:alive*,7:0:alive*")}}
	stranger := impl.NodeNew(5, false)
	for site := -2; site <= 3; site++ {
		expectList(t, fmt.Sprint("of ", site), impl.NodeGates(n, site), map[int][]int{0: {1, 3}, 1: {5, 6}}[site])
		expectList(t, fmt.Sprint("of ", site, " unknown"), impl.NodeGates(stranger, site), nil)
		expectList(t, fmt.Sprint("of ", site, " down"), impl.NodeGates(down(1, true), site), nil)
	}
	for _, site := range []int{math.MinInt, math.MaxInt} {
		expectList(t, fmt.Sprint("of ", site), impl.NodeGates(n, site), nil)
	}
	gone, _ := impl.NodeLeave(n)
	expectList(t, "of one that is gone", impl.NodeGates(gone, 0), []int{3})
	expectList(t, "of another site by one that is gone", impl.NodeGates(gone, 1), []int{5, 6})
}

func TestHowSureByHand(t *testing.T) {
	for _, c := range []struct{ now, since, by, want int }{
		{0, 0, 1, 6}, {0, 0, 2, 5}, {0, 0, 3, 4}, {0, 0, 4, 3},
		{5, 0, 1, 1}, {6, 0, 1, 0}, {7, 0, 1, 0}, {4, 0, 2, 1}, {5, 0, 2, 0}, {3, 0, 3, 1}, {4, 0, 3, 0}, {2, 0, 4, 1}, {3, 0, 4, 0},
		{nodeMaxNow, nodeMaxNow, 1, 6}, {nodeMaxNow, nodeMaxNow - 5, 1, 1}, {nodeMaxNow, 0, 1, 0}, {nodeMaxNow, 0, 4, 0},
	} {
		n := meets(6, "4:0:alive,7:8:suspect")
		n.Now, n.Doubts[0].Since, n.Doubts[0].By = c.now, c.since, siteNodes(7)[:c.by]
		for node := -2; node <= factMaxNode+2; node++ {
			sure, doubted := impl.NodeSure(n, node)
			what := fmt.Sprint(node, " of ", c)
			expect(t, what, doubted, node == 7)
			if node == 7 {
				expect(t, what, sure, c.want)
			} else {
				expect(t, what, sure, 0)
			}
		}
		gone, _ := impl.NodeLeave(n)
		sure, doubted := impl.NodeSure(gone, 7)
		expect(t, "of one that is gone", sure == c.want && doubted, true)
	}
	_, doubted := impl.NodeSure(down(6, true), 0)
	expect(t, "of one that is down", doubted, false)
}
