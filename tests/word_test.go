package tests

import (
	"fmt"
	"hash/crc32"
	"math"
	"regexp"
	"slices"
	"strconv"
	"strings"
	"testing"

	"loop.example/lightship/impl"
)

const (
	wordMaxText = 300
	wordMaxSeq  = 999999
	siteSize    = 4
	sumKind     = 6
)

var (
	poolTexts = []string{"", "lan", "wan"}
	kindTexts = []string{"", "ping", "ack", "ask", "sync", "back", "sum"}
)

// plainWord is ok, by any kind, and stays so when one of its parts becomes another one that is ok.
func plainWord(kind int) impl.Word {
	return impl.Word{Pool: 1, Kind: kind, From: 1, To: 2, Seq: 7, About: 3, Coord: at(-3, 0, 2, 10), Facts: []impl.Fact{fact(0, 12, 2), gate(2, 0, 1)}}
}

func drawWord(d *draws) impl.Word {
	w := impl.Word{Pool: d.between(1, 2), Kind: d.between(1, 6), From: d.between(0, 7), To: d.between(0, 7), About: d.between(0, 7)}
	w.Seq = d.oneOf([]int{0, 1, 9, 10, 99, 1000, d.between(0, wordMaxSeq), wordMaxSeq})
	w.Coord = drawCoord(d)
	site := w.From / siteSize
	if w.Kind == sumKind {
		site = d.between(0, 1)
	}
	for node := site * siteSize; node < (site+1)*siteSize; node++ {
		if d.between(0, 1) == 1 {
			w.Facts = append(w.Facts, drawFact(d, node))
		}
	}
	if w.Kind == sumKind && w.Facts == nil {
		w.Facts = []impl.Fact{drawFact(d, site*siteSize+d.between(0, 3))}
	}
	return w
}

func someWords(seed uint64, many int) []impl.Word {
	least := impl.Word{Pool: 1, Kind: 1, Coord: at(0, 0, 0, 1)}
	most := impl.Word{Pool: 2, Kind: 4, From: 7, To: 7, Seq: wordMaxSeq, About: 7, Coord: at(-coordMax, -coordMax, coordMax, coordMaxErr)}
	for node := 4; node <= 7; node++ {
		most.Facts = append(most.Facts, gate(node, factMaxInc, 2))
	}
	list := []impl.Word{least, most}
	for kind := 1; kind <= 6; kind++ {
		list = append(list, plainWord(kind))
	}
	d := &draws{seed}
	for range many {
		list = append(list, drawWord(d))
	}
	return list
}

func sameWord(v impl.Word, w impl.Word) bool {
	facts := slices.Equal(v.Facts, w.Facts)
	v.Facts, w.Facts = nil, nil
	return facts && fmt.Sprint(v) == fmt.Sprint(w)
}

func isNoWord(w impl.Word) bool {
	return sameWord(w, impl.Word{})
}

// summed puts the right sum behind a text, whatever that is.
func summed(body string) string {
	return fmt.Sprintf("%s %08x", body, crc32.ChecksumIEEE([]byte(body)))
}

func bodyByHand(w impl.Word) string {
	return fmt.Sprintf("%s %s %d %d %d %d %+d %+d %d %d %s", poolTexts[w.Pool], kindTexts[w.Kind],
		w.From, w.To, w.Seq, w.About, w.Coord.X, w.Coord.Y, w.Coord.H, w.Coord.E, tableByHand(w.Facts))
}

var bodyForm = regexp.MustCompile(`^(lan|wan) (ping|ack|ask|sync|back|sum) ([0-7]) [0-7] (?:0|[1-9][0-9]{0,5}) [0-7] ` +
	`([+]0|[+-][1-9][0-9]{0,5}) ([+]0|[+-][1-9][0-9]{0,5}) (0|[1-9][0-9]{0,5}) ([1-9][0-9]{0,3}) ([^ ]+)$`)

func isWithin(text string, most int) bool {
	n, err := strconv.Atoi(text)
	return err == nil && -most <= n && n <= most
}

// isBody says in another way than the program whether a text is what stands ahead of a word's sum.
func isBody(text string) bool {
	p := bodyForm.FindStringSubmatch(text)
	if p == nil || !isWithin(p[4], coordMax) || !isWithin(p[5], coordMax) || !isWithin(p[6], coordMax) || !isWithin(p[7], coordMaxErr) {
		return false
	}
	if !isTableText(p[8]) {
		return false
	}
	var told [2]int
	for _, part := range strings.Split(p[8], ",") {
		if part != "-" {
			told[(part[0]-'0')/siteSize]++
		}
	}
	if p[2] == "sum" {
		return (told[0] > 0) != (told[1] > 0)
	}
	return told[1-(p[3][0]-'0')/siteSize] == 0
}

func isRead(t *testing.T, text string, want bool) {
	t.Helper()
	w, ok := impl.WordRead(text)
	if ok != want {
		t.Fatalf("%.400q: got %v, want %v", text, ok, want)
	}
	if ok {
		expect(t, "written again", impl.WordWrite(w), text)
	} else if !isNoWord(w) {
		t.Fatalf("%.400q: beside false stands %v", text, w)
	}
}

func sumByDocument(text string) int {
	n := uint64(0xffffffff)
	for i := range len(text) {
		n ^= uint64(text[i])
		for range 8 {
			if n%2 == 0 {
				n /= 2
			} else {
				n = n/2 ^ 0xedb88320
			}
		}
	}
	return int(n ^ 0xffffffff)
}

func TestPromise23TheSumIsCRC32(t *testing.T) {
	expect(t, "of figures", impl.WordSumOf("123456789"), 0xcbf43926)
	expect(t, "of nothing", impl.WordSumOf(""), 0)
	expect(t, "of a letter", impl.WordSumOf("a"), 0xe8b7be43)
	d := &draws{23}
	for b := range 256 {
		text := string([]byte{byte(b)})
		expect(t, fmt.Sprintf("of %q", text), impl.WordSumOf(text), sumByDocument(text))
	}
	for size := range 600 {
		list := make([]byte, size)
		for i := range list {
			list[i] = byte(d.next())
		}
		text := string(list)
		expect(t, fmt.Sprintf("of %q", text), impl.WordSumOf(text), int(crc32.ChecksumIEEE(list)))
		expect(t, fmt.Sprintf("of %q", text), impl.WordSumOf(text), sumByDocument(text))
	}
	long := strings.Repeat("who is there, ", 100000)
	expect(t, "of a long text", impl.WordSumOf(long), int(crc32.ChecksumIEEE([]byte(long))))
}

func TestWordsAreOkWithinTheirBounds(t *testing.T) {
	for _, w := range someWords(41, 2000) {
		expect(t, fmt.Sprint(w), impl.WordOk(w), true)
	}
	none := []int{math.MinInt, -1, math.MaxInt}
	for _, c := range []struct {
		what string
		part func(w *impl.Word) *int
		ok   []int
		bad  []int
	}{
		{"Pool", func(w *impl.Word) *int { return &w.Pool }, []int{1, 2}, append(none, 0, 3)},
		{"Kind", func(w *impl.Word) *int { return &w.Kind }, []int{1, 2, 3, 4, 5, 6}, append(none, 0, 7)},
		{"From", func(w *impl.Word) *int { return &w.From }, []int{0, 1, 2, 3}, append(none, 8)},
		{"To", func(w *impl.Word) *int { return &w.To }, []int{0, 1, 7}, append(none, 8)},
		{"About", func(w *impl.Word) *int { return &w.About }, []int{0, 1, 7}, append(none, 8)},
		{"Seq", func(w *impl.Word) *int { return &w.Seq }, []int{0, 1, wordMaxSeq}, append(none, wordMaxSeq+1)},
		{"X", func(w *impl.Word) *int { return &w.Coord.X }, []int{-coordMax, 0, coordMax}, []int{math.MinInt, -coordMax - 1, coordMax + 1, math.MaxInt}},
		{"E", func(w *impl.Word) *int { return &w.Coord.E }, []int{1, coordMaxErr}, append(none, 0, coordMaxErr+1)},
	} {
		for kind := 1; kind <= 6; kind++ {
			for i, value := range append(c.ok, c.bad...) {
				w := plainWord(kind)
				*c.part(&w) = value
				expect(t, fmt.Sprint(c.what, " ", value, " in ", w), impl.WordOk(w), i < len(c.ok))
				expect(t, fmt.Sprint(c.what, " ", value, " in ", w), impl.WordWrite(w) != "", i < len(c.ok))
			}
		}
	}
	for _, bad := range badCoords() {
		w := plainWord(1)
		w.Coord = bad
		expect(t, fmt.Sprint(w), impl.WordOk(w), false)
		expect(t, fmt.Sprint(w), impl.WordWrite(w), "")
	}
	for _, bad := range badTables() {
		for kind := 1; kind <= 6; kind++ {
			w := plainWord(kind)
			w.Facts = bad
			expect(t, fmt.Sprint(w), impl.WordOk(w), false)
			expect(t, fmt.Sprint(w), impl.WordWrite(w), "")
		}
	}
	expect(t, "nothing", impl.WordOk(impl.Word{}), false)
	expect(t, "nothing", impl.WordWrite(impl.Word{}), "")
}

func TestOnlyASumTellsOfAnotherSite(t *testing.T) {
	for kind := 1; kind <= 6; kind++ {
		for from := 0; from <= 7; from++ {
			for _, c := range []struct {
				facts []impl.Fact
				site  int
			}{
				{nil, -1},
				{[]impl.Fact{}, -1},
				{[]impl.Fact{fact(0, 0, 1)}, 0},
				{[]impl.Fact{gate(3, 5, 2)}, 0},
				{[]impl.Fact{fact(4, 0, 1)}, 1},
				{[]impl.Fact{gate(7, 5, 2)}, 1},
				{[]impl.Fact{fact(0, 0, 1), fact(1, 0, 1), fact(2, 0, 1), fact(3, 0, 1)}, 0},
				{[]impl.Fact{fact(4, 0, 1), fact(5, 0, 1), fact(6, 0, 1), fact(7, 0, 1)}, 1},
				{[]impl.Fact{fact(3, 0, 1), fact(4, 0, 1)}, 2},
				{[]impl.Fact{fact(0, 0, 1), fact(1, 0, 1), fact(7, 0, 1)}, 2},
				{[]impl.Fact{fact(0, 0, 1), fact(5, 0, 1), fact(6, 0, 1)}, 2},
			} {
				w := plainWord(kind)
				w.From, w.Facts = from, c.facts
				want := c.site == -1 || c.site == from/4
				if kind == sumKind {
					want = c.site == 0 || c.site == 1
				}
				expect(t, fmt.Sprint(w), impl.WordOk(w), want)
				expect(t, fmt.Sprint(w), impl.WordWrite(w) != "", want)
				isRead(t, summed(bodyByHand(w)), want)
			}
		}
	}
}

func TestWordsByHand(t *testing.T) {
	w := impl.Word{Pool: 2, Kind: 6, From: 4, To: 0, Seq: 0, About: 4, Coord: at(0, -100000, 0, 1), Facts: []impl.Fact{fact(1, 0, 3), gate(3, 999, 1)}}
	body := "wan sum 4 0 0 4 +0 -100000 0 1 1:0:dead,3:999:alive*"
	expect(t, "a sum", impl.WordWrite(w), summed(body))
	w = impl.Word{Pool: 1, Kind: 2, From: 7, To: 5, Seq: 999999, About: 6, Coord: at(1, 100000, 100000, 1500)}
	body = "lan ack 7 5 999999 6 +1 +100000 100000 1500 -"
	expect(t, "an answer", impl.WordWrite(w), summed(body))
	for kind, text := range kindTexts[1:] {
		w = plainWord(kind + 1)
		body = "lan " + text + " 1 2 7 3 -3 +0 2 10 0:12:suspect,2:0:alive*"
		expect(t, text, impl.WordWrite(w), summed(body))
		got, ok := impl.WordRead(summed(body))
		expect(t, text, ok && sameWord(got, w), true)
	}
}

func TestPromise21AWordIsReadAsItWasWritten(t *testing.T) {
	nought := 0
	for _, w := range someWords(21, 20000) {
		text := impl.WordWrite(w)
		if text != summed(bodyByHand(w)) || len(text) > wordMaxText {
			t.Fatalf("%v: got %q", w, text)
		}
		got, ok := impl.WordRead(text)
		if !ok || !sameWord(got, w) {
			t.Fatalf("%q: got %v, want %v", text, got, w)
		}
		if text[len(text)-8] == '0' {
			nought++
		}
	}
	if nought < 100 {
		t.Errorf("only %d sums begin with a nought", nought)
	}
}

func TestPromise21WhatIsReadIsWrittenSo(t *testing.T) {
	for _, w := range someWords(42, 12) {
		body := bodyByHand(w)
		expect(t, body, isBody(body), true)
		for _, edit := range edits(body, "012589-+*:, aglxLW\n\x00\xff") {
			isRead(t, summed(edit), isBody(edit))
		}
		for _, edit := range edits(summed(body), "0f -A") {
			isRead(t, edit, edit == summed(body))
		}
	}
}

func TestPromise21OnePieceAnotherOne(t *testing.T) {
	pieces := []string{
		"", "0", "1", "3", "7", "8", "10", "00", "01", "+0", "-0", "+1", "-1", "+", "-", "+-1", "-+1", "--1", "+01", "-01", "+00",
		"999999", "1000000", "0999999", "100000", "100001", "+100000", "-100000", "+100001", "-100001", "1500", "1501", "+1500",
		"99999999999999999999999999", "+99999999999999999999999999", "-99999999999999999999999999", "9223372036854775808", "18446744073709551617",
		"0x1", "1_0", "1.0", "1e1", "٣", "lan", "wan", "Lan", "LAN", "la", "lann", "ping", "Ping", "sum", "sync", "pong", "lan ping", "ping ack",
		"0:0:alive", "4:0:alive", "0:0:alive*", "3:0:alive,4:0:alive", "1:0:alive,0:0:alive", "0:0:alive,0:0:alive", "0:00:alive", "8:0:alive", "0:1000:left", "0:0:alive,", "--",
	}
	for _, w := range []impl.Word{plainWord(1), plainWord(6), {Pool: 2, Kind: 5, From: 6, To: 1, Coord: at(0, 0, 0, 1)}} {
		parts := strings.Split(bodyByHand(w), " ")
		for i := range parts {
			for _, piece := range pieces {
				edit := slices.Clone(parts)
				edit[i] = piece
				body := strings.Join(edit, " ")
				isRead(t, summed(body), isBody(body))
			}
			body := strings.Join(slices.Delete(slices.Clone(parts), i, i+1), " ")
			isRead(t, summed(body), false)
		}
	}
}

func TestTextsThatAreNoWords(t *testing.T) {
	body := bodyByHand(plainWord(1))
	good := summed(body)
	isRead(t, good, true)
	for _, text := range []string{
		"", " ", "  ", strings.Repeat(" ", 11), strings.Repeat(" ", 12), strings.Repeat("- ", 12), "00000000", " 00000000",
		body, body + " ", body + " 00000000", body + "  " + good[len(good)-8:], summed(body + " "), summed(" " + body), summed(""), summed(" "),
		" " + good, good + " ", good + "\n", good + "\x00", good + " " + good, good + good,
		summed(good), summed(strings.ReplaceAll(body, " ", "  ")), summed(strings.Replace(body, " ", "", 1)), summed(strings.ReplaceAll(body, " ", "\t")),
		summed(strings.ToUpper(body)), summed(strings.TrimPrefix(body, "lan ")), summed("lan " + body),
	} {
		isRead(t, text, false)
	}
	letters := 0
	for _, w := range someWords(43, 100) {
		text := summed(bodyByHand(w))
		cut := len(text) - 8
		if upper := text[:cut] + strings.ToUpper(text[cut:]); upper != text {
			letters++
			isRead(t, upper, false)
		}
		if text[cut] == '0' {
			isRead(t, text[:cut]+text[cut+1:], false)
		}
		isRead(t, text[:cut]+"0"+text[cut:], false)
		isRead(t, text[:cut]+"+"+text[cut:], false)
	}
	expect(t, "sums with letters", letters > 50, true)
}

func TestWordsOfTheGreatestSizeAndOneMore(t *testing.T) {
	head := "lan sync 0 1 0 0 +0 +0 0 1 "
	for _, size := range []int{wordMaxText - 1, wordMaxText, wordMaxText + 1, 100000} {
		for _, fill := range []string{"0", "9", " ", "0:0:alive,", "-", "a"} {
			facts := strings.Repeat(fill, size)[:size-len(head)-9]
			isRead(t, summed(head+facts), false)
			isRead(t, summed("lan sync 0 1 "+strings.Repeat(fill, size)[:size-len("lan sync 0 1  0 +0 +0 0 1 -")-9]+" 0 +0 +0 0 1 -"), false)
			isRead(t, strings.Repeat(fill, size)[:size], false)
		}
	}
}

func TestPromise22OneByteAnotherOneIsNoWord(t *testing.T) {
	for _, w := range someWords(22, 12) {
		text := []byte(impl.WordWrite(w))
		for i, was := range text {
			for b := range 256 {
				if byte(b) != was {
					text[i] = byte(b)
					isRead(t, string(text), false)
				}
			}
			text[i] = was
		}
		isRead(t, string(text), true)
	}
}

func TestPromise70AWordThatWasCutOffIsNone(t *testing.T) {
	for _, w := range someWords(70, 300) {
		text := impl.WordWrite(w)
		for size := range len(text) {
			isRead(t, text[:size], false)
		}
		isRead(t, text+" ", false)
		isRead(t, text+"0", false)
		isRead(t, text[1:], false)
	}
}

func TestWordsAreNewMemory(t *testing.T) {
	for _, w := range someWords(44, 200) {
		was := w.Facts
		w.Facts = roomy(was, factMark)
		impl.WordOk(w)
		text := impl.WordWrite(w)
		untouched(t, text, w.Facts, was, factMark)
		first, _ := impl.WordRead(text)
		second, _ := impl.WordRead(text)
		apart(t, text, first.Facts, second.Facts)
		apart(t, text, first.Facts, w.Facts)
	}
	for _, bad := range badTables() {
		w := plainWord(6)
		w.Facts = roomy(bad, factMark)
		impl.WordOk(w)
		impl.WordWrite(w)
		untouched(t, "bad facts", w.Facts, bad, factMark)
	}
}
