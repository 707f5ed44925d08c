package tests

import (
	"fmt"
	"math"
	"regexp"
	"slices"
	"strings"
	"testing"

	"loop.example/lightship/impl"
)

const scriptMaxText = 4000

var scriptForm = regexp.MustCompile(`^((tick|bring|lose|spoil|side|fall|rise|leave|join) (0|[1-9][0-9]{0,5})( [1-9][0-9]{0,5})?|bring (0|[1-9][0-9]{0,5}) keep)$`)

// firstWrong says in another way than the program which line of a script is the first that is none; 0 for none.
func firstWrong(text string) int {
	lines := strings.Split(text, "\n")
	for i, line := range lines[:len(lines)-1] {
		if !scriptForm.MatchString(line) {
			return i + 1
		}
	}
	if lines[len(lines)-1] != "" {
		return len(lines)
	}
	return 0
}

// isScript holds that a text is read, and just what is written so.
func isScript(t *testing.T, text string, want []impl.Event) {
	t.Helper()
	list, line, ok := impl.ScriptRead(text)
	if !ok || line != 0 || !slices.Equal(list, want) {
		t.Errorf("%q is read as %v, %d, %v, not as %v", text, list, line, ok, want)
	}
	expect(t, fmt.Sprint(list), impl.ScriptWrite(list), text)
}

// isNoScript holds that a text is none, by which line, and does nothing.
func isNoScript(t *testing.T, text string, want int) {
	t.Helper()
	list, line, ok := impl.ScriptRead(text)
	if ok || len(list) > 0 || line != want {
		t.Errorf("%q is read as %v, %d, %v, not as none by line %d", text, list, line, ok, want)
	}
	board, could := impl.ScriptRun(text)
	if board != "" || could != -1 {
		t.Errorf("%q is run: %q, %d", text, board, could)
	}
}

func TestScriptWrite(t *testing.T) {
	for _, c := range []struct {
		list []impl.Event
		want string
	}{
		{nil, ""}, {[]impl.Event{}, ""},
		{[]impl.Event{{Kind: doTick}}, "tick 0\n"}, {[]impl.Event{{Kind: doTick, Node: 999999, Draw: 999999}}, "tick 999999 999999\n"},
		{[]impl.Event{{Kind: doBring, Node: 5, Keep: true}}, "bring 5 keep\n"}, {[]impl.Event{{Kind: doBring, Node: 5, Draw: 1}}, "bring 5 1\n"},
		{[]impl.Event{{Kind: doTick, Node: 1}, {Kind: doBring, Node: 2}, {Kind: doLose, Node: 3}, {Kind: doSpoil, Node: 4, Draw: 10}, {Kind: doSide, Node: 5, Draw: 2}},
			"tick 1\nbring 2\nlose 3\nspoil 4 10\nside 5 2\n"},
		{[]impl.Event{{Kind: doFall, Node: 6}, {Kind: doRise, Node: 7}, {Kind: doLeave, Node: 8}, {Kind: doJoin, Node: 9, Draw: 100}}, "fall 6\nrise 7\nleave 8\njoin 9 100\n"},
	} {
		expect(t, fmt.Sprint(c.list), impl.ScriptWrite(c.list), c.want)
		isScript(t, c.want, c.list)
	}
}

func unwritable() []impl.Event {
	list := []impl.Event{{}, {Kind: doTick, Keep: true}, {Kind: doJoin, Keep: true}, {Kind: doBring, Draw: 1, Keep: true}, {Kind: doBring, Draw: -1, Keep: true}, {Kind: doLose, Keep: true}}
	for _, n := range []int{-1, 1000000, math.MinInt, math.MaxInt} {
		list = append(list, impl.Event{Kind: doTick, Node: n}, impl.Event{Kind: doTick, Draw: n}, impl.Event{Kind: doBring, Node: n, Keep: true})
	}
	for _, kind := range []int{-1, 0, doJoin + 1, math.MinInt, math.MaxInt} {
		list = append(list, impl.Event{Kind: kind, Node: 1})
	}
	return list
}

func TestScriptWriteOfWhatCannotBeWritten(t *testing.T) {
	fine := impl.Event{Kind: doTick, Node: 1}
	for _, e := range unwritable() {
		for _, list := range [][]impl.Event{{e}, {e, fine}, {fine, e}, {fine, e, fine}} {
			expect(t, fmt.Sprint(list), impl.ScriptWrite(list), "")
		}
	}
	for kind := doTick; kind <= doJoin; kind++ {
		expect(t, "can be", impl.ScriptWrite([]impl.Event{{Kind: kind, Node: 3}}), doTexts[kind]+" 3\n")
	}
}

func TestScriptsAsLongAsMayBe(t *testing.T) {
	short := strings.Repeat("tick 1\n", 570)
	most := append(slices.Repeat([]impl.Event{{Kind: doTick, Node: 1}}, 570), impl.Event{Kind: doTick, Node: 1, Draw: 12})
	isScript(t, short+"tick 1 12\n", most)
	expect(t, "as long as may be", len(impl.ScriptWrite(most)), scriptMaxText)
	_, could := impl.ScriptRun(short + "tick 1 12\n")
	expect(t, "run", could, 571)
	isNoScript(t, short+"tick 1 123\n", 0)
	more := slices.Clone(most)
	more[570].Draw = 123
	expect(t, "one more", impl.ScriptWrite(more), "")
	expect(t, "far more", impl.ScriptWrite(slices.Repeat(most, 100)), "")
	more = append(slices.Repeat(most, 100), impl.Event{})
	expect(t, "far more, and one that is none", impl.ScriptWrite(more), "")
	// Which line is wrong is not looked for, if it is too long.
	isNoScript(t, "what\n"+strings.Repeat("x", scriptMaxText-4), 0)
	isNoScript(t, "what\n"+strings.Repeat("x", scriptMaxText-5), 1)
	isNoScript(t, strings.Repeat("\n", scriptMaxText), 1)
	isNoScript(t, strings.Repeat("\n", scriptMaxText+1), 0)
	isNoScript(t, short+"tick 1 1\n ", 572)
}

func TestScriptsThatAreNone(t *testing.T) {
	for _, line := range []string{
		"", " ", "tick", "tick ", "tick 1 0", "tick 01", "tick 1 01", "tick  1", "tick 1  2", "tick 1 ", "tick 1 2 ", " tick 1", "tick 1 2 3", "tick 1 keep", "bring 1 keep 3", "bring 1 0 keep",
		"bring 1 keep ", "bring 01 keep", "calm 1", "calm 0", "what", "what 1", "tick 1000000", "tick 1 1000000", "bring 1000000 keep", "tick -1", "tick +1", "tick 1 -1", "tick 1\r", "Tick 1",
		"tick 1\x00", "tick\t1", "bring 0 0", "join 1 0", "tick 99999999999999999999",
	} {
		isNoScript(t, line+"\n", 1)
		isNoScript(t, "tick 1\nbring 0 keep\n"+line+"\n", 3)
		isNoScript(t, "tick 1\n"+line+"\ntick 2\n", 2)
		isNoScript(t, "tick 1\n"+line+"\nwhat\n", 2)
		expect(t, line, firstWrong(line+"\n"), 1)
	}
	for text, line := range map[string]int{
		"tick 1": 1, "tick 1\ntick 2": 2, "tick 1\n ": 2, "tick 1\n\n": 2, "\ntick 1\n": 1, "\n": 1, "\n\n": 1, "x": 1, "tick 1\nbring 0 keep": 2, "tick 1\n\ntick 2": 2, "tick 1\ntick 2\nt": 3,
	} {
		isNoScript(t, text, line)
		expect(t, text, firstWrong(text), line)
	}
	isScript(t, "", nil)
	isScript(t, "tick 999999 999999\nbring 999999 keep\n", []impl.Event{{Kind: doTick, Node: 999999, Draw: 999999}, {Kind: doBring, Node: 999999, Keep: true}})
}

func drawWritable(d *draws) impl.Event {
	e := impl.Event{Kind: d.between(doTick, doJoin), Node: d.oneOf([]int{0, 1, 7, 10, 999999, d.between(0, 999999)})}
	switch d.between(0, 3) {
	case 0:
		e.Keep = e.Kind == doBring
	case 1:
		e.Draw = d.oneOf([]int{1, 9, 10, 999999, d.between(0, 999999)})
	}
	return e
}

func TestPromise64AScriptCanBeWrittenAndReadAgain(t *testing.T) {
	d := &draws{5402}
	var texts []string
	for range 1500 {
		var list []impl.Event
		for range d.oneOf([]int{0, 1, 2, 10, 150}) {
			list = append(list, drawWritable(d))
		}
		text := impl.ScriptWrite(list)
		isScript(t, text, list)
		expect(t, text, firstWrong(text), 0)
		texts = append(texts, text)
	}
	read, none := 0, 0
	for _, text := range append(texts[:60], "tick 1\nbring 0 keep\njoin 10 2\n") {
		if len(text) > 60 {
			continue
		}
		for _, other := range edits(text, "019 k\n") {
			list, line, ok := impl.ScriptRead(other)
			expect(t, fmt.Sprintf("%q", other), line, firstWrong(other))
			expect(t, fmt.Sprintf("%q", other), ok, line == 0)
			if ok {
				read++
				isScript(t, other, list)
			} else {
				none++
				isNoScript(t, other, line)
			}
		}
	}
	expect(t, "enough of both", read > 100 && none > 1000, true)
}

func TestPromise82AScriptDoesJustWhatItsLinesDo(t *testing.T) {
	d := &draws{5403}
	for range 150 {
		var list []impl.Event
		for _, e := range drawEvents(d, d.oneOf([]int{0, 1, 20, 200, worldMaxEvent})) {
			e.Draw = max(e.Draw%1000, 0)
			if !slices.Contains(unwritable(), e) && e.Kind > 0 && e.Kind <= doJoin && e.Node >= 0 {
				list = append(list, e)
			}
		}
		text := impl.ScriptWrite(list)
		if text == "" && len(list) > 0 {
			continue
		}
		board, could := impl.ScriptRun(text)
		expect(t, text, board, impl.WorldBoard(impl.WorldPlay(list)))
		p, count := newPlayed(), 0
		for _, e := range list {
			if p.happens(e) {
				count++
			}
		}
		expect(t, text, could, count)
		expect(t, text, board, p.board())
	}
	board, could := impl.ScriptRun("")
	expect(t, "of nothing", board, newBoard)
	expect(t, "of nothing", could, 0)
	board, could = impl.ScriptRun("rise 0\ntick 0 3\ntick 8\nbring 0\nfall 0\n")
	expect(t, "how many could be", could, 2)
	expect(t, "what they did", board, strings.Replace(newBoard, "node 0 now 0 inc 0 at 0,0+0 table 0:0:alive*", "node 0 down", 1))
}

// A script is bounded by its bytes, not by how much is played.
func TestScriptRunOfMoreThanIsPlayed(t *testing.T) {
	for _, many := range []int{worldMaxEvent - 1, worldMaxEvent, worldMaxEvent + 1, 571} {
		board, could := impl.ScriptRun(strings.Repeat("tick 5\n", many))
		expect(t, fmt.Sprint(many), could, many)
		expect(t, fmt.Sprint(many), strings.Contains(board, fmt.Sprintf("node 5 now %d inc", many)), true)
	}
}
