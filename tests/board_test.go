package tests

import (
	"fmt"
	"strings"
	"testing"

	"loop.example/lightship/impl"
)

var exampleLines = []string{
	"join 1 0", "bring 0", "bring 0", "tick 0 3", "spoil 0 20", "bring 0", "tick 1 0", "side 1 1", "bring 0", "tick 9", "rise 0", "fall 3",
	"calm 3", "what", "calm 40",
}

const exampleText = `no
no
not all see the same
what
all see the same
0 under way, 8 told
node 0 now 44 inc 0 at 0,284+71 table 0:0:alive*,1:0:alive*,2:0:alive* site 1 4:0:alive*,5:0:alive*,6:0:alive*,7:0:alive
node 1 now 44 inc 0 at 0,-197+50 table 0:0:alive*,1:0:alive*,2:0:alive* site 1 4:0:alive*,5:0:alive*,6:0:alive*,7:0:alive
node 2 now 43 inc 0 at 0,58+132 table 0:0:alive*,1:0:alive*,2:0:alive* site 1 4:0:alive*,5:0:alive*,6:0:alive*,7:0:alive
node 3 down
node 4 now 43 inc 0 at -29,232+57 table 4:0:alive*,5:0:alive*,6:0:alive*,7:0:alive site 0 0:0:alive*,1:0:alive*,2:0:alive*
node 5 now 43 inc 0 at -212,-72+65 table 4:0:alive*,5:0:alive*,6:0:alive*,7:0:alive site 0 0:0:alive*,1:0:alive*,2:0:alive*
node 6 now 43 inc 0 at 73,-207+76 table 4:0:alive*,5:0:alive*,6:0:alive*,7:0:alive site 0 0:0:alive*,1:0:alive*,2:0:alive*
node 7 now 43 inc 0 at 150,14+114 table 4:0:alive*,5:0:alive*,6:0:alive*,7:0:alive site 0 0:0:alive*,1:0:alive*,2:0:alive*
`

const newBoard = `0 under way, 8 told
node 0 now 0 inc 0 at 0,0+0 table 0:0:alive*
node 1 now 0 inc 0 at 0,0+0 table 1:0:alive*
node 2 now 0 inc 0 at 0,0+0 table 2:0:alive*
node 3 now 0 inc 0 at 0,0+0 table 3:0:alive
node 4 now 0 inc 0 at 0,0+0 table 4:0:alive*
node 5 now 0 inc 0 at 0,0+0 table 5:0:alive*
node 6 now 0 inc 0 at 0,0+0 table 6:0:alive*
node 7 now 0 inc 0 at 0,0+0 table 7:0:alive
`

func TestTheDocumentsExample(t *testing.T) {
	expect(t, "the program", impl.WorldSession(exampleLines), exampleText)
	expect(t, "the model", newPlayed().session(exampleLines), exampleText)
}

func TestWorldBoard(t *testing.T) {
	expect(t, "new", impl.WorldBoard(impl.WorldNew()), newBoard)
	expect(t, "something of everything", impl.WorldBoard(plainWorld()), `5 under way, 19 told
node 0 now 0 inc 0 at 0,0+0 table 0:0:alive*
node 1 now 100 inc 5 at 30,-40+5 table 0:3:alive*,1:5:alive*,2:6:suspect*,3:7:dead site 1 4:0:alive*,5:1:alive*,6:2:alive*,7:1:left
node 2 left now 0 inc 0 at 0,0+0 table 0:3:alive*,1:5:alive*,2:0:left*
node 3 now 0 inc 0 at 0,0+0 table 3:0:alive
node 4 down
node 5 now 0 inc 0 at 0,0+0 table 5:0:alive*,6:0:alive*,7:1:suspect
node 6 now 0 inc 0 at 0,0+0 table 6:0:alive*
node 7 now 0 inc 0 at 0,0+0 table 7:0:alive
`)
	w := only(impl.NodeNew(7, false))
	w.Nodes[7].Now, w.Nodes[7].Inc, w.Nodes[7].Table[0].Inc = nodeMaxNow, factMaxInc, factMaxInc
	w.Nodes[7].Coord = at(-coordMax, coordMax, coordMax, 1)
	w.Born, w.Radio = nil, filled(worldMaxRadio)
	lines := strings.Split(impl.WorldBoard(w), "\n")
	expect(t, "how much", lines[0], "60 under way, 0 told")
	expect(t, "down", lines[1], "node 0 down")
	expect(t, "as far as may be", lines[8], "node 7 now 999999 inc 999 at -100000,100000+100000 table 7:999:alive")
	expect(t, "lines", len(lines), 10)
	expect(t, "not ok", impl.WorldBoard(impl.World{}), "")
}

// answerTo is what a session says to one line, of a new world, and what the model says.
func answerTo(line string) (string, string) {
	return impl.WorldSession([]string{line}), newPlayed().session([]string{line})
}

func TestLinesThatAreNone(t *testing.T) {
	for _, line := range []string{
		"", " ", "what", "tick", "tick ", "tick  1", "tick 1 ", " tick 1", "tick 1  2", "tick 1 2 ", "tick 1 2 3", "tick\t1", "tick 1\n", "tick 1\r", "\ntick 1",
		"Tick 1", "TICK 1", "ticks 1", "tic 1", "tick1", "tick 01", "tick 00", "tick 1 01", "tick 1 00", "tick -1", "tick +1", "tick 1 -1", "tick 1 +1", "tick 1 -0", "tick -0",
		"tick 1000000", "tick 1 1000000", "tick 0999999", "tick 1 0999999", "tick 99999999999999999999", "tick 1 99999999999999999999", "tick 18446744073709551617",
		"tick 0x1", "tick 1_0", "tick 1.0", "tick a", "tick 1 a", "tick \u0661", "tick 1 keep", "join 1 keep", "lose 0 keep", "spoil 0 keep", "bring keep", "bring 0 Keep",
		"bring 0 keep ", "bring 0  keep", "bring 0 keep 0", "bring 0 0 keep", "bring 0 keep keep", "bring 00 keep", "bring 1000000 keep", "bring 0 kee", "bring 0 keeps", "bring",
		"calm", "calm ", "calm 61", "calm 060", "calm 00", "calm 01", "calm -1", "calm +1", "calm 60 ", "calm  60", " calm 60", "calm 60 0", "calm 1 1", "calm 100", "calm 600", "calm a", "calm 1\n",
		"Calm 1", "calms 1", "calm 18446744073709551617", "calm keep", "calm 0 keep", "\x00", "\xff", "1 tick", "1", "tick 1,2", "tick,1", "tick 1\x002",
	} {
		got, want := answerTo(line)
		expect(t, fmt.Sprintf("%q", line), got, "what\n"+newBoard)
		expect(t, fmt.Sprintf("%q by the model", line), got, want)
	}
}

func TestLinesThatHappen(t *testing.T) {
	for line, no := range map[string]bool{
		"tick 0": false, "tick 7": false, "tick 8": true, "tick 7 0": false, "tick 7 999999": false, "tick 999999": true, "tick 999999 999999": true,
		"bring 0": true, "bring 0 0": true, "bring 0 5": true, "bring 0 keep": true, "bring 999999 keep": true, "lose 0": true, "spoil 0": true, "spoil 0 9": true,
		"side 0": false, "side 7 2": false, "side 7 999999": false, "side 8": true, "fall 0": false, "fall 7 3": false, "fall 8": true, "rise 0": true, "rise 8": true,
		"leave 0": false, "leave 7": false, "leave 8": true, "join 0": true, "join 1": false, "join 1 0": false, "join 0 1": false, "join 0 4": true, "join 8 7": true, "join 7 6": false,
	} {
		got, want := answerTo(line)
		expect(t, line, got, want)
		expect(t, line+" cannot be", strings.HasPrefix(got, "no\n"), no)
		expect(t, line+" is something", strings.HasPrefix(got, "what\n"), false)
	}
	// Words under way, by a line each.
	for _, lines := range []string{
		"join 1|bring 0|bring 0", "join 1 0|bring 0 keep|bring 0 keep|bring 0", "join 1 0|bring 0 7|bring 0 999999", "join 1|lose 0 5|lose 0", "join 1|spoil 0|spoil 0|bring 0",
		"join 1|spoil 0 999999|bring 0|bring 0", "join 1|side 1 1|bring 0|side 1|bring 0", "fall 1|fall 1|rise 1|rise 1|leave 1|leave 1|tick 1|rise 1|fall 1|rise 1|tick 1",
	} {
		list := strings.Split(lines, "|")
		expect(t, lines, impl.WorldSession(list), newPlayed().session(list))
	}
}

func TestCalmLines(t *testing.T) {
	for _, rounds := range []int{0, 1, 9, 10, 59, 60} {
		got, want := answerTo(fmt.Sprint("calm ", rounds))
		expect(t, fmt.Sprint(rounds), got, want)
		expect(t, fmt.Sprint(rounds), strings.Contains(got, fmt.Sprintf("node 7 now %d inc", rounds)), true)
		expect(t, fmt.Sprint(rounds), strings.HasPrefix(got, "all see the same\n"), rounds > 1)
	}
}

func TestSessionsOfNothing(t *testing.T) {
	expect(t, "no lines", impl.WorldSession(nil), newBoard)
	expect(t, "empty lines", impl.WorldSession([]string{"", ""}), "what\nwhat\n"+newBoard)
}

// lineOf is a line of what happens, mostly.
func lineOf(d *draws, e impl.Event) string {
	if d.between(0, 30) == 0 {
		return fmt.Sprint("calm ", d.oneOf([]int{0, 1, 2, 12, 60, 61}))
	}
	name := "what"
	if 0 < e.Kind && e.Kind < len(doTexts) {
		name = doTexts[e.Kind]
	}
	line := fmt.Sprint(name, " ", e.Node)
	switch {
	case e.Keep:
		return line + " keep"
	case e.Draw != 0 || d.between(0, 3) == 0:
		return fmt.Sprint(line, " ", max(e.Draw, 0)%1000001)
	}
	return line
}

func TestSessionsAsTheModel(t *testing.T) {
	d := &draws{5401}
	for range 120 {
		var lines []string
		for _, e := range drawEvents(d, d.between(0, 120)) {
			lines = append(lines, lineOf(d, e))
		}
		expect(t, strings.Join(lines, "|"), impl.WorldSession(lines), newPlayed().session(lines))
	}
}

// More lines than may be played, or than a script may have, are no matter for a session.
func TestLongSessions(t *testing.T) {
	var lines []string
	for i := range 1500 {
		lines = append(lines, fmt.Sprint("tick ", i%nodeCount, " 3"))
	}
	expect(t, "all ticked", strings.Count(impl.WorldSession(lines), " now 18"), nodeCount)
}

func TestLinesByForm(t *testing.T) {
	for _, line := range []string{"tick 1 20", "bring 0 keep", "join 10", "calm 2", "rise 0 0"} {
		for _, other := range edits(line, "0129 -+k\n") {
			if rest, isCalm := strings.CutPrefix(other, "calm "); isCalm && len(rest) > 1 && len(rest) < 3 {
				continue // long calms are held elsewhere
			}
			got, want := answerTo(other)
			expect(t, fmt.Sprintf("%q", other), got, want)
		}
	}
}
