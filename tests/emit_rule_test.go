package tests

import (
	"fmt"
	"slices"
	"strconv"
	"strings"
	"testing"

	"loop.example/interlinear/impl"
)

// A whence goes through a line, part by part, as the document tells it: the words of the line and the byte behind them, and the words that it is turned into, with where they came from.
type whence struct {
	line  []string
	at    int
	words []string
	from  []int
	// newOnes are brackets around parts that had none in the line.
	newOnes int
}

// left are words of the line that are turned into none.
func (w *whence) left(words ...string) {
	for _, word := range words {
		w.line = append(w.line, word)
		w.at += len(word) + 1
	}
}

func (w *whence) came(word string, turned string) {
	w.words, w.from = append(w.words, turned), append(w.from, w.at)
	w.left(word)
}

func (w *whence) added(word string) {
	w.words, w.from = append(w.words, word), append(w.from, cameNone)
}

// part is one that must hold so tight in the line, and so tight in what it is turned into.
func (w *whence) part(e impl.Expr, must int, bareMust int) {
	switch e.Kind {
	case numberKind:
		w.came(strconv.Itoa(e.N), strconv.Itoa(e.N))
		return
	case nameKind:
		w.came(e.S, e.S)
		return
	case asKind:
		w.part(e.Kids[0], 4, bareMust)
		w.left("as", e.S)
		return
	}
	if holds[e.S] < must {
		w.left("(")
	}
	if holds[e.S] < bareMust {
		w.added("(")
		if holds[e.S] >= must {
			w.newOnes++
		}
	}
	w.part(e.Kids[0], firstMust[e.S], firstMust[e.S])
	w.came(e.S, e.S)
	w.part(e.Kids[1], secondMust[e.S], secondMust[e.S])
	if holds[e.S] < must {
		w.left(")")
	}
	if holds[e.S] < bareMust {
		w.added(")")
	}
}

// whenceByRule goes through a line whose parts are ok.
func whenceByRule(s impl.Stmt) whence {
	var w whence
	switch s.Kind {
	case letKind:
		w.left("let")
		w.came(s.Name, s.Name)
		w.left(":", s.Type)
		w.came("=", "=")
		w.part(s.Expr, 0, 0)
	case sayKind:
		w.came("say", "print")
		w.part(s.Expr, 0, 0)
	case whenKind:
		w.came("when", "if")
		w.part(s.Expr, 0, 0)
		w.added(":")
		w.came("say", "print")
		w.part(s.Then, 0, 0)
	}
	return w
}

// checkEmittedByRule holds what a line is turned into, and where its words came from, against what the document tells of it.
func checkEmittedByRule(t *testing.T, s impl.Stmt) {
	t.Helper()
	w := whenceByRule(s)
	bare := strings.Join(w.words, " ")
	if strings.Join(w.line, " ") != lineByRule(s) || bare != bareTextByRule(bareLineByRule(s)) {
		t.Fatalf("%q is gone through as %q and %q", lineByRule(s), w.line, w.words)
	}
	// By the document's rules there is no bracket that comes in where a type is taken away.
	if w.newOnes > 0 {
		t.Errorf("%q has brackets that are not in %q", bare, lineByRule(s))
	}
	checkEmitted(t, s, bare, w.from)
	checkWhence(t, s)
}

// checkWhence looks at the answer for a line by itself: each word is where it came from, no two came from one, and only words that must be are left or came from none.
func checkWhence(t *testing.T, s impl.Stmt) {
	t.Helper()
	line := impl.StmtText(s)
	text, from := impl.EmitLine(s)
	words := strings.Fields(text)
	if len(words) != len(from) {
		t.Fatalf("%q is emitted as %q, with %d words from %v", line, text, len(words), from)
	}
	begins := map[int]string{}
	col := 0
	for _, word := range strings.Fields(line) {
		begins[col] = word
		col += len(word) + 1
	}
	for i, word := range words {
		if from[i] == cameNone {
			if word != ":" && word != "(" && word != ")" {
				t.Errorf("%q of %q came from none", word, line)
			}
			continue
		}
		came, there := begins[from[i]]
		delete(begins, from[i])
		if !there || came != word && (word != "print" || came != "say") && (word != "if" || came != "when") || strings.Contains("(:)", word) {
			t.Errorf("%q came from %d of %q", word, from[i], line)
		}
	}
	for col, word := range begins {
		if !slices.Contains([]string{"let", ":", "int", "bool", "as", "(", ")"}, word) {
			t.Errorf("no word came from %q at %d of %q", word, col, line)
		}
	}
}

// segsByRule are those of a program, line by line.
func segsByRule(p []impl.Stmt) []impl.Seg {
	var segs []impl.Seg
	for i, s := range p {
		w := whenceByRule(s)
		segs = append(segs, segsOfLine(i, strings.Join(w.words, " "), w.from)...)
	}
	return segs
}

// wordAt is the word of a text that begins at a place; the empty text, if none does.
func wordAt(text string, p impl.Pos) string {
	at, ok := impl.PosOff(text, p)
	if !ok || at > 0 && text[at-1] != ' ' && text[at-1] != '\n' {
		return ""
	}
	return strings.FieldsFunc(text[at:]+" ", func(r rune) bool { return r == ' ' || r == '\n' })[0]
}

// checkEmittedProgramByRule looks at all that is told of a program: what it is turned into says the same, and each word of it is where it came from.
func checkEmittedProgramByRule(t *testing.T, p []impl.Stmt) {
	t.Helper()
	_, text := turnedByRule(p)
	segs := segsByRule(p)
	checkEmittedProgram(t, p, text, segs)
	said, all := impl.ProgRun(p)
	if got, ok := impl.BareAll(impl.EmitText(p)); ok != all || !slices.Equal(got, said) {
		t.Errorf("%q says %v %v, but %q prints %v %v", textByRule(p), said, all, text, got, ok)
	}
	for _, one := range impl.EmitSegs(p) {
		word, came := wordAt(text, one.To), wordAt(textByRule(p), one.From)
		if word == "" || word != came && word+" "+came != "print say" && word+" "+came != "if when" {
			t.Errorf("%q: %q came from %q: %v", textByRule(p), word, came, one)
		}
	}
}

func TestAllSmallPartsAreEmitted(t *testing.T) {
	parts := partsOfSize(7, []impl.Expr{number(1), name("x")}, []string{"+", "*", "<"}, []string{"int"})
	count, without := 0, 0
	for _, e := range slices.Concat(parts...) {
		if _, depth := sizeAndDepth(e); depth > mostAround+1 {
			continue
		}
		for _, s := range []impl.Stmt{let("x", "bool", e), say(e), when(e, as(name("x"), "int"))} {
			checkEmittedByRule(t, s)
			text, _ := impl.EmitLine(s)
			if strings.Count(text, "(") < strings.Count(lineByRule(s), "(") {
				without++
			}
		}
		count++
		if t.Failed() {
			return
		}
	}
	if count < 5000 || without < 4000 {
		t.Error("few parts, or few brackets that go:", count, without)
	}
	small := slices.Concat(parts[:5]...)
	for _, asked := range small {
		for _, then := range small {
			checkEmittedByRule(t, when(asked, then))
		}
	}
}

func TestManyLinesAreEmitted(t *testing.T) {
	s := steps(97)
	kinds, widest, without := map[int]int{}, 0, 0
	for range 40000 {
		line := s.line()
		text := lineByRule(line)
		if len(text) > widestLine {
			checkLineNotEmitted(t, line)
			continue
		}
		checkEmittedByRule(t, line)
		kinds[line.Kind]++
		bare, _ := impl.EmitLine(line)
		widest = max(widest, len(bare))
		if strings.Count(bare, "(") < strings.Count(text, "(") {
			without++
		}
		if t.Failed() {
			return
		}
	}
	if kinds[noneKind] < 500 || kinds[letKind] < 5000 || kinds[sayKind] < 5000 || kinds[whenKind] < 5000 || widest < 110 || without < 5000 {
		t.Error("the lines are nearly all of one sort:", kinds, widest, without)
	}
}

// Each way to share out 116 bytes between what is asked and what is said.
func TestWidestWhensAreEmitted(t *testing.T) {
	const bothWidest = widestLine - len("when ") - len(" say ")
	widest := 0
	for width := bothWidest - 93; width <= 93; width++ {
		for _, shapes := range [][]string{wideShapes, bareShapes} {
			if len(shapes) == len(bareShapes) && (width > 79 || bothWidest-width > 79) {
				continue
			}
			first, _ := shapedPart(t, shapes, width, "a")
			second, _ := shapedPart(t, shapes, bothWidest-width, "b")
			checkEmittedByRule(t, when(first, second))
			bare, _ := impl.EmitLine(when(first, second))
			widest = max(widest, len(bare))
			checkLineNotEmitted(t, when(first, two(as(name("longname"), "bool"), "+", second)))
		}
	}
	if widest != widestLine+2 {
		t.Error("the widest has", widest, "bytes")
	}
}

func TestAllSmallProgramsAreEmitted(t *testing.T) {
	lines := append(smallLines(t), progOf(t, "say ( x + 1 ) as int - ( y * 2 ) as bool", "when ( x < 2 ) as int as bool say 3 * ( x * 2 ) as int")...)
	var try func(p []impl.Stmt)
	try = func(p []impl.Stmt) {
		if len(p) > 0 {
			checkEmittedProgramByRule(t, p)
		}
		if len(p) < 3 && !t.Failed() {
			for _, s := range lines {
				try(append(slices.Clone(p), s))
			}
		}
	}
	try(nil)
}

func TestManyProgramsAreEmitted(t *testing.T) {
	s := steps(101)
	counts, most := map[int]int{}, 0
	for i := range 3000 {
		p := s.program(1+s.below(mostLines), []int{0, 15, 100}[i%3])
		checkEmittedProgramByRule(t, p)
		counts[len(p)]++
		most = max(most, len(impl.EmitSegs(p)))
		if t.Failed() {
			return
		}
	}
	if counts[1] < 100 || counts[mostLines] < 100 || most < 120 {
		t.Error("the programs are nearly all of one sort:", counts, most)
	}
}

// otherWord is a word that may stand in the place of one without a bracket more or less; the empty text, if there is none.
func otherWord(word string) string {
	switch {
	case word == "+":
		return "-"
	case word == "-":
		return "+"
	case impl.TokKind(word) == numKind:
		return map[bool]string{true: "8", false: "7"}[word == "7"]
	case impl.ExprOk(name(word)):
		return map[bool]string{true: "w", false: "q"}[word == "q"]
	}
	return ""
}

// A number, a name or a mark that is changed in the line is changed where it went, and nowhere else.
func TestChangedWordsAreChangedWhereTheyWent(t *testing.T) {
	s := steps(103)
	changes := 0
	for range 4000 {
		line := s.narrowLine()
		text := lineByRule(line)
		bare, from := impl.EmitLine(line)
		words := strings.Fields(bare)
		for i, begin := range from {
			other := otherWord(words[i])
			if begin == cameNone || other == "" {
				continue
			}
			want, wantFrom := slices.Clone(words), slices.Clone(from)
			want[i] = other
			for k := range wantFrom {
				if wantFrom[k] > begin {
					wantFrom[k] += len(other) - len(words[i])
				}
			}
			changed, ok := impl.StmtRead(text[:begin] + other + text[begin+len(words[i]):])
			if !ok {
				t.Fatalf("%q is no line with %q at %d", text, other, begin)
			}
			if got, gotFrom := impl.EmitLine(changed); got != strings.Join(want, " ") || !slices.Equal(gotFrom, wantFrom) {
				t.Fatalf("%q with %q at %d is emitted as %q %v, want %q %v", text, other, begin, got, gotFrom, want, wantFrom)
			}
			changes++
		}
	}
	if changes < 20000 {
		t.Error("few changes:", changes)
	}
}

// Each function answers also where parts have no end, or hardly one, and where there are very many lines.
func TestEmittedWithoutAnEnd(t *testing.T) {
	x := name("x")
	good := say(number(1))
	for _, e := range []impl.Expr{loop("+", 1), loop("+", 2), doubled(200, x), within("as", x, 100000), within("first", x, 100000), {Kids: make([]impl.Expr, 100000)}} {
		for i, s := range []impl.Stmt{let("x", "int", e), say(e), when(e, x), when(x, e), {Expr: e}, {Then: e}, {Kind: sayKind, Expr: x, Then: e}, {Kind: 7, Expr: e, Then: e}} {
			if text, from := impl.EmitLine(s); text != "" || len(from) != 0 {
				t.Error("without an end, but emitted:", i, text, from)
			}
			for _, p := range [][]impl.Stmt{{s}, {good, s}, {s, good}, slices.Repeat([]impl.Stmt{s}, mostLines), slices.Repeat([]impl.Stmt{s}, mostLines+1)} {
				if text, segs := impl.EmitText(p), impl.EmitSegs(p); text != "" || len(segs) != 0 {
					t.Error("without an end, but emitted:", i, text, segs)
				}
			}
		}
	}
	checkLineNotEmitted(t, let(strings.Repeat("x", 3000000), "int", x))
	checkNotEmitted(t, make([]impl.Stmt, 1000000))
}

func TestEmittedIsNewMemory(t *testing.T) {
	s := steps(107)
	for range 300 {
		p := s.program(1+s.below(mostLines), 10)
		for _, line := range p {
			_, one := impl.EmitLine(line)
			_, other := impl.EmitLine(line)
			overwrite(one, -7)
			// Looked at ahead of the next call, which would set right what both share.
			want := whenceByRule(line)
			if !slices.Equal(other, want.from) {
				t.Fatalf("%q is emitted into shared memory: %v, want %v", lineByRule(line), other, want.from)
			}
			checkEmitted(t, line, strings.Join(want.words, " "), want.from)
		}
		want := segsByRule(p)
		one, other := impl.EmitSegs(p), impl.EmitSegs(p)
		overwrite(one, seg(-7, -7, -7, -7))
		if !slices.Equal(other, want) {
			t.Fatalf("%q is emitted into shared memory: %v, want %v", textByRule(p), other, want)
		}
		checkEmittedProgramByRule(t, p)
	}
}

func TestEmittedIsOnlyLookedAt(t *testing.T) {
	for _, p := range programsWithRoom(109) {
		before := allOfLines(p)
		impl.EmitText(p)
		impl.EmitSegs(p)
		for _, line := range p {
			impl.EmitLine(line)
		}
		if allOfLines(p) != before {
			t.Fatalf("written into %.300v", p)
		}
	}
}

func TestSegsAreOnlyLookedAt(t *testing.T) {
	for _, lines := range [][]impl.Seg{
		nil, segRow(1, 0, 0), segRow(20, 3, 110), segRow(mostSegs, 0, 0), segRow(mostSegs+1, 0, 0),
		{seg(5, 0, 0, 0), seg(4, 0, 0, 0)}, {seg(5, 3, 0, 0), seg(5, 3, 0, 0), seg(1, 1, 1, 1)}, {seg(-1, 200, 16, -3)},
	} {
		room := append(slices.Clone(lines), seg(0, 0, -7, -7), seg(-7, -7, 0, 0))
		list := room[:len(lines)]
		other := slices.Clone(room)
		before := fmt.Sprint(room)
		impl.SegsOk(list)
		impl.SegsSame(list, other[:len(lines)])
		impl.SegsSame(list, list)
		if fmt.Sprint(room) != before || fmt.Sprint(other) != before {
			t.Fatalf("written into %.300v", list)
		}
	}
}

// No call keeps anything for the next one.
func TestEmittedKeepsNothing(t *testing.T) {
	all := emittings()
	for range 3 {
		for i, e := range all {
			checkEmitted(t, progOf(t, e.line)[0], e.bare, e.from())
			checkNotEmitted(t, nil)
			checkLineNotEmitted(t, impl.Stmt{Kind: 9})
			other := all[len(all)-1-i]
			checkEmitted(t, progOf(t, other.line)[0], other.bare, other.from())
		}
	}
}
