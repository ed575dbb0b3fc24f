package tests

import (
	"fmt"
	"maps"
	"math"
	"regexp"
	"slices"
	"strings"
	"testing"

	"loop.example/interlinear/impl"
)

// okByRule says whether a list is SegsOk as the document tells it.
func okByRule(list []impl.Seg) bool {
	inBounds := func(p impl.Pos) bool {
		return p.Line >= 0 && p.Line < mostLines && p.Col >= 0 && p.Col < wideBytes
	}
	for i, one := range list {
		if !inBounds(one.To) || !inBounds(one.From) || i > 0 && list[i-1].To.Line*wideBytes+list[i-1].To.Col >= one.To.Line*wideBytes+one.To.Col {
			return false
		}
	}
	return len(list) <= mostSegs
}

// mapByRule is the text of a list whose lines of To go on, as the document tells it.
func mapByRule(list []impl.Seg) string {
	if len(list) == 0 {
		return ""
	}
	lines := make([][]string, list[len(list)-1].To.Line+1)
	ahead := append([]impl.Seg{{}}, list...)
	for i, one := range list {
		further := one.To.Col
		if i > 0 && ahead[i].To.Line == one.To.Line {
			further -= ahead[i].To.Col
		}
		word := numberLetters(further) + numberLetters(one.From.Line-ahead[i].From.Line) + numberLetters(one.From.Col-ahead[i].From.Col)
		lines[one.To.Line] = append(lines[one.To.Line], word)
	}
	var texts []string
	for _, line := range lines {
		texts = append(texts, strings.Join(line, ","))
	}
	return strings.Join(texts, "=")
}

// threeNumbers are three numbers in letters, each up to its first last digit.
var threeNumbers = regexp.MustCompile("^([A-P]*[a-p])([A-P]*[a-p])([A-P]*[a-p])$")

// turnsByLetters are all numbers that a map may have, by their letters.
func turnsByLetters() map[string]int {
	turns := map[string]int{}
	for n := 1 - wideBytes; n < wideBytes; n++ {
		turns[numberLetters(n)] = n
	}
	return turns
}

// A mapReading reads maps as the document tells what they say, without writing them anew.
type mapReading struct{ turns map[string]int }

func (r mapReading) read(text string) ([]impl.Seg, bool) {
	if text == "" {
		return nil, true
	}
	lines := strings.Split(text, "=")
	if lines[len(lines)-1] == "" {
		return nil, false
	}
	var list []impl.Seg
	var from impl.Pos
	for line, words := range lines {
		if words == "" {
			continue
		}
		col := 0
		for _, word := range strings.Split(words, ",") {
			letters := threeNumbers.FindStringSubmatch(word)
			if letters == nil {
				return nil, false
			}
			var nums [3]int
			for k := range nums {
				n, there := r.turns[letters[k+1]]
				if !there {
					return nil, false
				}
				nums[k] = n
			}
			col, from.Line, from.Col = col+nums[0], from.Line+nums[1], from.Col+nums[2]
			list = append(list, impl.Seg{To: pos(line, col), From: from})
		}
	}
	if !okByRule(list) {
		return nil, false
	}
	return list, true
}

// checkMapText holds how a text is read against what the document tells of it.
func (r mapReading) checkMapText(t *testing.T, text string) bool {
	t.Helper()
	list, ok := r.read(text)
	if ok {
		checkMap(t, list, text)
	} else {
		checkMapNotRead(t, "by the rule", text)
	}
	return ok
}

func lookByRule(list []impl.Seg, p impl.Pos) (impl.Pos, bool) {
	var from impl.Pos
	found := false
	for _, one := range list {
		if one.To.Line == p.Line && one.To.Col <= p.Col {
			from, found = one.From, true
		}
	}
	return from, found
}

func backByRule(list []impl.Seg, p impl.Pos) []impl.Pos {
	var all []impl.Pos
	for _, one := range list {
		if one.From.Line == p.Line && one.From.Col == p.Col {
			all = append(all, one.To)
		}
	}
	return all
}

func joinByRule(a []impl.Seg, b []impl.Seg) []impl.Seg {
	var all []impl.Seg
	for _, one := range a {
		if from, ok := lookByRule(b, one.From); ok {
			all = append(all, impl.Seg{To: one.To, From: from})
		}
	}
	return all
}

// checkPlace looks at one place in both ways.
func checkPlace(t *testing.T, list []impl.Seg, p impl.Pos) {
	t.Helper()
	if want, there := lookByRule(list, p); there {
		checkLook(t, list, p, want)
	} else {
		checkNoLook(t, list, p)
	}
	checkBack(t, list, p, backByRule(list, p)...)
}

// checkMapByRule looks at all that is told of a list that is ok, with some of all places, and each that is in it or next to one.
func checkMapByRule(t *testing.T, list []impl.Seg, s *steps) {
	t.Helper()
	checkMap(t, list, mapByRule(list))
	for _, one := range list {
		for _, p := range []impl.Pos{one.To, one.From} {
			for _, by := range []int{-1, 0, 1} {
				checkPlace(t, list, pos(p.Line, p.Col+by))
				checkPlace(t, list, pos(p.Line+by, p.Col))
			}
		}
	}
	for range 20 {
		checkPlace(t, list, pos(s.below(mostLines+2)-1, s.below(wideBytes+2)-1))
	}
}

// segs makes a list that is ok, of up to so many.
func (s *steps) segs(count int) []impl.Seg {
	gap := []int{1, 3, 30, 200, 700}[s.below(5)]
	to := s.below([]int{1, wideBytes, 1500, mostLines * wideBytes}[s.below(4)])
	lineStep, colStep := []int{1, 2, 5, mostLines}[s.below(4)], []int{1, 3, 20, wideBytes}[s.below(4)]
	from := pos(s.below(mostLines), s.below(wideBytes))
	var list []impl.Seg
	for len(list) < count && to < mostLines*wideBytes {
		list = append(list, impl.Seg{To: pos(to/wideBytes, to%wideBytes), From: from})
		to += 1 + s.below(gap)
		from.Line = min(max(from.Line+s.below(2*lineStep-1)-lineStep+1, 0), mostLines-1)
		from.Col = min(max(from.Col+s.below(2*colStep-1)-colStep+1, 0), wideBytes-1)
	}
	return list
}

func TestManyMapsByRule(t *testing.T) {
	s := steps(113)
	many, backs, most := 0, 0, 0
	for range 1200 {
		list := s.segs(s.below(60))
		checkMapByRule(t, list, &s)
		if len(list) > 20 {
			many++
		}
		if len(list) > 0 {
			most = max(most, list[len(list)-1].To.Line-list[0].To.Line)
			backs = max(backs, len(impl.MapBack(list, list[0].From)))
		}
		if t.Failed() {
			return
		}
	}
	if many < 200 || backs < 20 || most != mostLines-1 {
		t.Error("the lists are nearly all of one sort:", many, backs, most)
	}
}

// Each place there is, and those around, of some lists.
func TestAllPlacesAreLookedUp(t *testing.T) {
	s := steps(127)
	lists := [][]impl.Seg{nil, segRow(mostSegs, 0, 0), segRow(mostSegs, 5, 40), segRow(1, 15, 119)}
	for range 12 {
		lists = append(lists, s.segs(50))
	}
	for _, list := range lists {
		for line := -2; line < mostLines+2; line++ {
			for col := -2; col < wideBytes+3; col++ {
				checkPlace(t, list, pos(line, col))
			}
		}
		if t.Failed() {
			return
		}
	}
}

func TestLongMapsByRule(t *testing.T) {
	for _, count := range []int{119, 120, 121, 640, mostSegs - 1, mostSegs} {
		for _, first := range []int{0, mostLines*wideBytes - count} {
			list := segRow(count, first/wideBytes, first%wideBytes)
			checkMap(t, list, mapByRule(list))
			checkJoin(t, list, list, joinByRule(list, list)...)
		}
	}
	for _, count := range []int{mostSegs + 1, mostSegs + 2, 1500, mostLines * wideBytes} {
		list := segRow(count, 0, 0)
		checkNoMap(t, "too many", list)
		checkMapNotRead(t, "too many", mapByRule(list))
	}
}

func TestManyJoinsByRule(t *testing.T) {
	s := steps(137)
	all, some, none := 0, 0, 0
	for range 4000 {
		a, b := s.segs(s.below(40)), s.segs(s.below(40))
		want := joinByRule(a, b)
		checkJoin(t, a, b, want...)
		// Each place that is left came from where the second map tells that the first one's place came from.
		for _, one := range impl.MapJoin(a, b) {
			through, _ := impl.MapLook(a, one.To)
			if from, ok := impl.MapLook(b, through); !ok || from != one.From {
				t.Errorf("%v came from %v through %v, want %v", one.To, from, through, one.From)
			}
		}
		switch {
		case len(a) == 0:
		case len(want) == len(a):
			all++
		case len(want) > 0:
			some++
		default:
			none++
		}
		if t.Failed() {
			return
		}
	}
	if all < 100 || some < 400 || none < 400 {
		t.Error("the joins are nearly all of one sort:", all, some, none)
	}
}

// checkMapOfProgram looks whether each word of what a program is turned into, and each byte up to the next one that came from one, is looked up where it came from.
func checkMapOfProgram(t *testing.T, p []impl.Stmt) {
	t.Helper()
	list := impl.EmitSegs(p)
	checkMap(t, list, mapByRule(list))
	read, _ := impl.MapRead(impl.MapText(list))
	for line, s := range p {
		bare, begins := impl.EmitLine(s)
		from := cameNone
		for col := range bare {
			if col == 0 || bare[col-1] == ' ' {
				if i := strings.Count(bare[:col], " "); begins[i] != cameNone {
					from = begins[i]
					checkBack(t, read, pos(line, from), pos(line, col))
				}
			}
			checkLook(t, read, pos(line, col), pos(line, from))
		}
		checkNoLook(t, read, pos(line, -1))
		if bare == "" {
			checkNoLook(t, read, pos(line, 0))
		}
		// From a byte at which no word begins that is turned into one came none.
		for col := range wideBytes {
			if !slices.Contains(begins, col) {
				checkBack(t, read, pos(line, col))
			}
		}
	}
}

func TestMapsOfManyPrograms(t *testing.T) {
	s := steps(139)
	longest := 0
	for range 600 {
		p := s.program(1+s.below(mostLines), 30)
		checkMapOfProgram(t, p)
		longest = max(longest, len(impl.MapText(impl.EmitSegs(p))))
		if t.Failed() {
			return
		}
	}
	for _, e := range emittings() {
		checkMapOfProgram(t, progOf(t, e.line))
		checkMapOfProgram(t, progOf(t, "", e.line, "", "", e.line, ""))
		checkMapOfProgram(t, slices.Repeat(progOf(t, e.line), mostLines))
	}
	if longest < 500 {
		t.Error("the longest map has", longest, "bytes")
	}
}

// allMaps are all lists whose texts have at most so many bytes, of numbers that have only these letters.
func allMaps(most int, letters string) map[string][]impl.Seg {
	var turns []int
	for n := 1 - wideBytes; n < wideBytes; n++ {
		if strings.Trim(numberLetters(n), letters) == "" {
			turns = append(turns, n)
		}
	}
	all := map[string][]impl.Seg{}
	var grow func(list []impl.Seg)
	grow = func(list []impl.Seg) {
		text := mapByRule(list)
		if len(text) > most || !okByRule(list) {
			return
		}
		all[text] = slices.Clone(list)
		var last impl.Seg
		if len(list) > 0 {
			last = list[len(list)-1]
		}
		// No Seg has fewer than three letters and a mark ahead of them, but for the first.
		for line := last.To.Line; line < mostLines && len(text)+max(line-last.To.Line, min(len(text), 1))+3 <= most; line++ {
			begin := last.To.Col
			if line > last.To.Line {
				begin = 0
			}
			for _, further := range turns {
				for _, lines := range turns {
					for _, cols := range turns {
						grow(append(list, seg(line, begin+further, last.From.Line+lines, last.From.Col+cols)))
					}
				}
			}
		}
	}
	grow(nil)
	return all
}

// All texts of up to so many bytes of a small alphabet, and all short rows of pieces: those that are the text of a list, and no others, are read.
func TestAllShortTextsOfMaps(t *testing.T) {
	readMaps := reading[[]impl.Seg]{impl.MapRead, slices.Equal[[]impl.Seg]}
	readMaps.checkAllTexts(t, 8, []string{"a", "c", "d", "A", ",", "="}, "", allMaps(8, "acdA"))
	readMaps.checkAllTexts(t, 7, []string{"a", "b", "c", "A", "P", ",", "=", "q"}, "", allMaps(7, "abcAP"))
	readMaps.checkAllTexts(t, 12, []string{"a", ",", "="}, "", allMaps(12, "a"))
	r := mapReading{turnsByLetters()}
	for text, list := range allMaps(10, "acd") {
		if read, ok := r.read(text); !ok || !slices.Equal(read, list) {
			t.Fatalf("by the rule %q is read as %v %v, want %v", text, read, ok, list)
		}
	}
}

// All rows of up to seven pieces that are nearly those of maps.
func TestAllShortRowsOfPiecesOfMaps(t *testing.T) {
	r := mapReading{turnsByLetters()}
	read, notRead := 0, 0
	var try func(text string, left int)
	try = func(text string, left int) {
		if r.checkMapText(t, text) {
			read++
		} else {
			notRead++
		}
		for _, piece := range []string{",", "=", "aaa", "caa", "cdc", "ccd", "Moaa"} {
			if left > 0 && !t.Failed() {
				try(text+piece, left-1)
			}
		}
	}
	try("", 6)
	if read < 300 || notRead < 100000 {
		t.Error("the texts are nearly all of one sort:", read, notRead)
	}
}

// changedMaps are texts that differ from one in a byte, a mark or a piece.
func changedMaps(text string) []string {
	var all []string
	pieces := []string{",", "=", "a", "b", "c", "d", "A", "B", "P", "p", "q", " ", "\n", "0", "\xff", "aaa", ",aaa", ",caa", "=aaa", "aaa,", "aaa="}
	for i := range len(text) + 1 {
		all = append(all, text[:i], text[i:])
		for _, piece := range pieces {
			all = append(all, text[:i]+piece+text[i:])
			if i < len(text) {
				all = append(all, text[:i]+piece+text[i+1:])
			}
		}
		if i < len(text) {
			all = append(all, text[:i]+text[i+1:], text[:i]+string(text[i]^('a'^'A'))+text[i+1:])
		}
		if i+1 < len(text) {
			all = append(all, text[:i]+text[i+1:i+2]+text[i:i+1]+text[i+2:])
		}
	}
	return all
}

func TestChangedTextsOfMaps(t *testing.T) {
	r := mapReading{turnsByLetters()}
	s := steps(149)
	texts := []string{}
	for _, m := range mappings() {
		texts = append(texts, m.text)
	}
	for range 60 {
		texts = append(texts, mapByRule(s.segs(1+s.below(12))), mapByRule(segsByRule(s.program(1+s.below(3), 0))))
	}
	read, notRead := 0, 0
	for _, text := range texts {
		for _, changed := range changedMaps(text) {
			if r.checkMapText(t, changed) {
				read++
			} else {
				notRead++
			}
			if t.Failed() {
				return
			}
		}
	}
	if read < 10000 || notRead < 100000 {
		t.Error("the texts are nearly all of one sort:", read, notRead)
	}
}

// writable says whether the numbers of a list can be written, whether it is ok or not.
func writable(list []impl.Seg) bool {
	return !slices.ContainsFunc(list, func(one impl.Seg) bool {
		for _, part := range segParts() {
			if n := *part.of(&one); n < -300 || n > 300 {
				return true
			}
		}
		return one.To.Line < 0 || one.To.Line > list[len(list)-1].To.Line
	})
}

// Each of the four numbers of each Seg, alone, is changed: what is not ok has the fixed answers, and its text, if it has one, is not read.
func TestListsThatAreNotOkAreNoMaps(t *testing.T) {
	r := mapReading{turnsByLetters()}
	s := steps(151)
	bad, good, written := map[string]int{}, 0, 0
	for _, list := range [][]impl.Seg{
		{{}},
		{seg(15, 119, 15, 119)},
		{seg(0, 0, 0, 0), seg(0, 1, 15, 119), seg(15, 119, 0, 0)},
		{seg(3, 4, 5, 6), seg(3, 6, 5, 6), seg(4, 0, 0, 0), seg(4, 119, 15, 2), seg(5, 0, 3, 119), seg(7, 7, 7, 7)},
		segRow(9, 2, 115), s.segs(9), s.segs(9), segRow(mostSegs, 0, 0),
	} {
		for i := range list {
			if i > 20 && i < len(list)-3 {
				continue
			}
			for _, part := range segParts() {
				was := *part.of(&list[i])
				for _, n := range []int{-1, 0, was - 1, was + 1, was - 2, was + 2, part.past - 1, part.past, part.past + 1, -part.past, 256 + was, was - 256, 1<<32 + was, math.MinInt, math.MaxInt} {
					changed := slices.Clone(list)
					*part.of(&changed[i]) = n
					if okByRule(changed) {
						checkMap(t, changed, mapByRule(changed))
						checkJoin(t, changed, list, joinByRule(changed, list)...)
						checkJoin(t, list, changed, joinByRule(list, changed)...)
						good++
						continue
					}
					checkNoMap(t, part.name, changed)
					bad[part.name]++
					if writable(changed) {
						r.checkMapText(t, mapByRule(changed))
						written++
					}
				}
			}
		}
	}
	if len(bad) != 4 || slices.Min(slices.Collect(maps.Values(bad))) < 100 || good < 300 || written < 300 {
		t.Error("the lists are nearly all of one sort:", bad, good, written)
	}
	checkNoMap(t, "very many", make([]impl.Seg, 1000000))
}

// By chapter 8's bounds no list has a text of more than 9000 bytes, so a text of 20000 is no map, as one of 20001 is none; both are tested.
func TestLongTextsAreNoMaps(t *testing.T) {
	longest := 0
	s := steps(157)
	for range 300 {
		list := s.segs(mostSegs)
		longest = max(longest, len(mapByRule(list)))
	}
	var widest []impl.Seg
	for i := range mostSegs {
		widest = append(widest, seg(i/80, i%80, 15*(i%2), 119*(i%2)))
	}
	checkMap(t, widest, mapByRule(widest))
	const bound = mostSegs*(3*2+1) + mostLines
	if longest = max(longest, len(mapByRule(widest))); longest > bound || bound > mostMapBytes/2 || longest < 7000 {
		t.Fatal("the longest text has", longest, "bytes of", bound)
	}
	good := mapByRule(widest)
	for _, size := range []int{mostMapBytes - 1, mostMapBytes, mostMapBytes + 1, 2 * mostMapBytes, 1000000} {
		for _, piece := range []string{"a", "A", ",", "=", "aaa,", "aaa=", "caa,", "=aaa", "aaa,daa,", "\x00", " ", "q", good + "=", good + ","} {
			row := strings.Repeat(piece, size/len(piece)+1)
			checkMapNotRead(t, "too long", row[:size])
			checkMapNotRead(t, "too long", row[len(row)-size:])
			checkMapNotRead(t, "too long", good+row[:size-len(good)])
			checkMapNotRead(t, "too long", row[len(row)-size+len(good):]+good)
		}
	}
}

// mapsWithRoom are lists, ok and not, with room behind their end, and marks in it.
func mapsWithRoom() [][]impl.Seg {
	s := steps(163)
	lists := [][]impl.Seg{
		nil, segRow(1, 0, 0), segRow(20, 3, 110), segRow(mostSegs, 0, 0), segRow(mostSegs+1, 0, 0),
		{seg(5, 0, 0, 0), seg(4, 0, 0, 0)}, {seg(5, 3, 0, 0), seg(5, 3, 0, 0), seg(1, 1, 1, 1)}, {seg(-1, 200, 16, -3)},
	}
	for range 20 {
		lists = append(lists, s.segs(30))
	}
	for i, list := range lists {
		room := append(slices.Clone(list), seg(0, 0, -7, -7), seg(15, 119, 3, 3), seg(-7, -7, 0, 0))
		lists[i] = room[:len(list)]
	}
	return lists
}

func allOfSegs(lists ...[]impl.Seg) string {
	var text strings.Builder
	for _, list := range lists {
		fmt.Fprintln(&text, list[:cap(list)])
	}
	return text.String()
}

func TestMapsAreOnlyLookedAt(t *testing.T) {
	lists := mapsWithRoom()
	before := allOfSegs(lists...)
	for _, a := range lists {
		impl.MapText(a)
		for _, p := range []impl.Pos{pos(0, 0), pos(3, 115), pos(15, 119), pos(-7, -7)} {
			impl.MapLook(a, p)
			impl.MapBack(a, p)
		}
		for _, b := range lists {
			impl.MapJoin(a, b)
		}
		if allOfSegs(lists...) != before {
			t.Fatalf("written into %.300v", a)
		}
	}
}

// What is written into an answer, and into the room behind it, is seen in no argument and in no other answer, looked at ahead of the next call, which would set right what both share.
func TestMapsAreNewMemory(t *testing.T) {
	lists := mapsWithRoom()
	before := allOfSegs(lists...)
	mark := seg(-9, -9, -9, -9)
	for _, a := range lists {
		if !okByRule(a) {
			continue
		}
		text := mapByRule(a)
		one, _ := impl.MapRead(text)
		other, _ := impl.MapRead(text)
		overwrite(one, mark)
		if !slices.Equal(other, a) {
			t.Fatalf("%q is read into shared memory: %v", text, other)
		}
		for _, from := range a {
			want := backByRule(a, from.From)
			back, again := impl.MapBack(a, from.From), impl.MapBack(a, from.From)
			overwrite(back, pos(-9, -9))
			if !slices.Equal(again, want) || allOfSegs(lists...) != before {
				t.Fatalf("what came from %v is told in shared memory: %v", from.From, again)
			}
			if len(a) > 100 {
				break
			}
		}
		for _, b := range lists {
			if !okByRule(b) {
				continue
			}
			want := joinByRule(a, b)
			joined, again := impl.MapJoin(a, b), impl.MapJoin(a, b)
			overwrite(joined, mark)
			if !slices.Equal(again, want) || allOfSegs(lists...) != before {
				t.Fatalf("%v and %v are joined in shared memory: %v", a, b, again)
			}
		}
	}
	// A join in which nothing changes is new memory, too.
	same := []impl.Seg{seg(0, 0, 0, 0), seg(1, 1, 1, 1)}
	overwrite(impl.MapJoin(same, same), mark)
	checkJoin(t, same, same, seg(0, 0, 0, 0), seg(1, 1, 1, 1))
}

// No call keeps anything for the next one.
func TestMapsKeepNothing(t *testing.T) {
	all := mappings()
	for range 3 {
		for i, m := range all {
			other := all[len(all)-1-i]
			checkMap(t, m.list, m.text)
			checkMapNotRead(t, "cut off", "aObOo,cPb")
			checkJoin(t, m.list, other.list, joinByRule(m.list, other.list)...)
			checkNoMap(t, "Line of To", []impl.Seg{seg(16, 0, 0, 0)})
			for _, one := range m.list {
				checkPlace(t, m.list, one.To)
				checkPlace(t, other.list, one.To)
			}
			checkMap(t, other.list, other.text)
		}
	}
}
