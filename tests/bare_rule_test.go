package tests

import (
	"fmt"
	"slices"
	"strings"
	"testing"

	"loop.example/interlinear/impl"
)

// bareLineByRule is what a line is turned into as the document tells it, of one whose parts are ok.
func bareLineByRule(s impl.Stmt) impl.Bare {
	return impl.Bare{Kind: s.Kind, Name: s.Name, Expr: bareByRule(s.Expr), Then: bareByRule(s.Then)}
}

// bareTextByRule is the text of a line without types, of one whose parts are ok.
func bareTextByRule(b impl.Bare) string {
	switch b.Kind {
	case letKind:
		return b.Name + " = " + wordsByTable(b.Expr, 0)
	case sayKind:
		return "print " + wordsByTable(b.Expr, 0)
	case whenKind:
		return "if " + wordsByTable(b.Expr, 0) + " : print " + wordsByTable(b.Then, 0)
	}
	return ""
}

func turnedByRule(p []impl.Stmt) ([]impl.Bare, string) {
	var list []impl.Bare
	var texts []string
	for _, s := range p {
		b := bareLineByRule(s)
		list, texts = append(list, b), append(texts, bareTextByRule(b))
	}
	return list, strings.Join(texts, "\n")
}

// checkTurnedProgram looks whether a program is turned as the document tells it, line by line, and says the same as what it is turned into: read by itself, and as a list.
func checkTurnedProgram(t *testing.T, p []impl.Stmt) {
	t.Helper()
	want, text := turnedByRule(p)
	var turned []impl.Bare
	var texts []string
	for i, s := range p {
		b := impl.BareOf(s)
		if !sameBare(b, want[i]) {
			t.Errorf("%q is turned into %v, want %v", lineByRule(s), b, want[i])
		}
		turned, texts = append(turned, b), append(texts, impl.BareText(b))
	}
	if got := strings.Join(texts, "\n"); got != text {
		t.Errorf("%q is turned into %q, want %q", textByRule(p), got, text)
	}
	said, all := saidByRule(p)
	checkPrints(t, turned, text, said, all)
	if got, ok := impl.ProgRun(p); ok != all || !slices.Equal(got, said) {
		t.Errorf("%q says %v %v, but what it is turned into prints %v %v", textByRule(p), got, ok, said, all)
	}
}

// bareShapes are parts without types, as wideShapes are; with names of 1 to 8 letters they have each width of 1 to 79.
var bareShapes = []string{"?", "? + ?", "? + ? + ( ? + ? )", "( ( ? < ? ) + ? ) * ( ( ? < ? ) + ? )"}

// Parts without types are at most 79 bytes wide, so what tells a name has at most 90 bytes, and what prints 85: the bound of 120 refuses none of them.
func TestWidthOfSetsAndPrints(t *testing.T) {
	widest := 0
	for size := 1; size <= mostParts; size++ {
		widest = max(widest, widestPart(size, mostAround+1, 0, false))
	}
	if widest != 79 {
		t.Fatal("the widest part without types has", widest, "bytes")
	}
	for width := 1; width <= widest; width++ {
		e, text := shapedPart(t, bareShapes, width, "c")
		checkTurned(t, let("longname", "bool", e), set("longname", e), "longname = "+text)
		checkTurned(t, say(e), prints(e), "print "+text)
	}
	_, text := shapedPart(t, bareShapes, widest, "c")
	for _, wider := range []string{text + " + c", "1 + " + text, strings.Replace(text, "cc", "ccc", 1), text + " as int"} {
		checkBareNotRead(t, "longname = "+wider)
		checkBareNotRead(t, "print "+wider)
	}
}

// Each way to share out 120 bytes between what is asked and what is printed, and one to six bytes more in either of them.
func TestWidthOfIfs(t *testing.T) {
	const widestPart = 79
	const bothWidest = wideBytes - len("if ") - len(" : print ")
	tooWide := func(b impl.Bare, text string) {
		t.Helper()
		checkNoBare(t, b)
		checkBareNotRead(t, text)
	}
	for width := bothWidest - widestPart; width <= widestPart; width++ {
		first, firstText := shapedPart(t, bareShapes, width, "a")
		second, secondText := shapedPart(t, bareShapes, bothWidest-width, "b")
		text := "if " + firstText + " : print " + secondText
		if len(text) != wideBytes {
			t.Fatal("width", len(text))
		}
		checkBare(t, printsIf(first, second), text)
		checkPrints(t, []impl.Bare{prints(number(3)), printsIf(first, second)}, "print 3\n"+text, []int{3}, false)
		// The line that it would be turned from is wider than a line may be.
		checkNotTurned(t, when(first, second))
		for more := 1; more <= 6; more++ {
			if width+more <= widestPart {
				wider, widerText := shapedPart(t, bareShapes, width+more, "a")
				tooWide(printsIf(wider, second), "if "+widerText+" : print "+secondText)
			}
			if bothWidest-width+more <= widestPart {
				wider, widerText := shapedPart(t, bareShapes, bothWidest-width+more, "b")
				tooWide(printsIf(first, wider), "if "+firstText+" : print "+widerText)
			}
		}
	}
	widest, text := shapedPart(t, bareShapes, widestPart, "c")
	tooWide(printsIf(widest, widest), "if "+text+" : print "+text)
	checkBare(t, printsIf(widest, name("c")), "if "+text+" : print c")
	checkBare(t, printsIf(name("c"), widest), "if c : print "+text)
}

// A line of 116 bytes without types in it is turned into one of 118, the widest that there is; with types in it into a narrower one.
func TestWidestStmtsAreTurned(t *testing.T) {
	const bothWidest = widestLine - len("when ") - len(" say ")
	for width := 1; width < bothWidest; width++ {
		for _, shapes := range [][]string{bareShapes, wideShapes} {
			widest := 79
			if len(shapes) == len(wideShapes) {
				widest = 93
			}
			if width > widest || bothWidest-width > widest {
				continue
			}
			first, firstText := shapedPart(t, shapes, width, "a")
			second, secondText := shapedPart(t, shapes, bothWidest-width, "b")
			s := when(first, second)
			checkStmt(t, s, "when "+firstText+" say "+secondText, strings.Join(namesByRule(first, second), " "))
			b := bareLineByRule(s)
			text := bareTextByRule(b)
			if len(shapes) == len(bareShapes) && len(text) != widestLine+2 {
				t.Errorf("%q has %d bytes", text, len(text))
			}
			checkTurned(t, s, b, text)
		}
	}
}

// bareLine makes a line without types whose parts are ok; it may be too wide, or wider than any that a line with types is turned into.
func (s *steps) bareLine() impl.Bare {
	b := bareLineByRule(s.line())
	if b.Kind == letKind && s.below(4) == 0 {
		b.Name = []string{"a", "prints", "iff", "abcdefgh"}[s.below(4)]
	}
	if b.Kind == whenKind && s.below(2) == 0 {
		width := 29 + s.below(51)
		return printsIf(s.namesFor(bareShapes[3], width), s.namesFor(bareShapes[3], 107-width+s.below(3)))
	}
	return b
}

// namesFor puts names into a shape, so that its text has about so many bytes.
func (s *steps) namesFor(shape string, width int) impl.Expr {
	for more := max(0, width-len(shape)); strings.Contains(shape, "?"); {
		letters := min(more, 7)
		more -= letters
		shape = strings.Replace(shape, "?", strings.Repeat([]string{"x", "y", "z"}[s.below(3)], 1+letters), 1)
	}
	e, _ := impl.ExprRead(strings.Fields(shape))
	return e
}

func TestManyBaresByRule(t *testing.T) {
	s := steps(53)
	kinds, widths := map[int]int{}, map[int]int{}
	seen := map[string]impl.Bare{}
	for range 40000 {
		b := s.bareLine()
		text := bareTextByRule(b)
		kinds[b.Kind]++
		widths[len(text)]++
		if len(text) > wideBytes {
			checkNoBare(t, b)
			checkBareNotRead(t, text)
			continue
		}
		checkBare(t, b, text)
		if other, ok := seen[text]; ok && !sameBare(b, other) {
			t.Fatalf("two lines have the text %q", text)
		}
		seen[text] = b
	}
	if kinds[noneKind] < 500 || kinds[letKind] < 5000 || kinds[sayKind] < 5000 || kinds[whenKind] < 5000 || widths[wideBytes] < 20 || widths[wideBytes+1] < 20 {
		t.Error("the lines are nearly all of one sort:", kinds, widths)
	}
}

func TestManyStmtsAreTurned(t *testing.T) {
	s := steps(59)
	fewer := 0
	for range 40000 {
		line := s.line()
		if len(lineByRule(line)) > widestLine {
			checkNotTurned(t, line)
			continue
		}
		b := bareLineByRule(line)
		checkTurned(t, line, b, bareTextByRule(b))
		if strings.Count(lineByRule(line), "(") > strings.Count(bareTextByRule(b), "(") {
			fewer++
		}
	}
	if fewer < 5000 {
		t.Error("few lines have fewer brackets without types:", fewer)
	}
}

func TestAllSmallProgramsAreTurned(t *testing.T) {
	lines := append(smallLines(t), progOf(t, "say ( x + 1 ) as int - ( y * 2 ) as bool", "when ( x < 2 ) as int as bool say 3 * ( x * 2 ) as int")...)
	whole, stuck := 0, 0
	var try func(p []impl.Stmt)
	try = func(p []impl.Stmt) {
		if len(p) > 0 {
			checkTurnedProgram(t, p)
			if _, ok := impl.ProgRun(p); ok {
				whole++
			} else {
				stuck++
			}
		}
		if len(p) < 3 && !t.Failed() {
			for _, s := range lines {
				try(append(slices.Clone(p), s))
			}
		}
	}
	try(nil)
	if whole < 400 || stuck < 4000 {
		t.Error("the programs are nearly all of one sort:", whole, stuck)
	}
}

func TestManyProgramsAreTurned(t *testing.T) {
	s := steps(67)
	counts, saids, stuckBehind := map[int]int{}, map[int]int{}, 0
	for i := range 6000 {
		p := s.program(1+s.below(mostLines), []int{0, 15, 100}[i%3])
		checkTurnedProgram(t, p)
		said, all := saidByRule(p)
		counts[len(p)]++
		saids[len(said)]++
		if !all && len(said) > 0 {
			stuckBehind++
		}
		if t.Failed() {
			return
		}
	}
	if counts[1] < 200 || counts[mostLines] < 200 || saids[0] < 500 || saids[5] < 100 || stuckBehind < 100 {
		t.Error("the programs are nearly all of one sort:", counts, saids, stuckBehind)
	}
}

// checkBareReadIsWritten looks whether a text, if it is read, is just that of the line that is read.
func checkBareReadIsWritten(t *testing.T, text string) bool {
	t.Helper()
	b, ok := impl.BareRead(text)
	if !ok {
		checkBareNotRead(t, text)
		return false
	}
	if !impl.BareOk(b) || bareTextByRule(b) != text || impl.BareText(b) != text {
		t.Fatalf("%q is read as %v", text, b)
	}
	return true
}

// Texts that differ in a byte or a word from one of a line without types: they are that of another one, or of none.
func TestChangedTextsOfBares(t *testing.T) {
	s := steps(73)
	read, notRead := 0, 0
	for range 120 {
		text := bareTextByRule(s.bareLine())
		if len(text) > wideBytes {
			continue
		}
		never, others := changedTexts(text)
		for _, changed := range never {
			checkBareNotRead(t, changed)
		}
		for _, changed := range others {
			if checkBareReadIsWritten(t, changed) {
				read++
			} else {
				notRead++
			}
		}
	}
	if read < 2000 || notRead < 20000 {
		t.Error("the texts are nearly all of one sort:", read, notRead)
	}
}

var readBares = reading[impl.Bare]{impl.BareRead, sameBare}

// allBares are all lines without types that have these parts, by their texts.
func allBares(parts [][]impl.Expr, names ...string) map[string]impl.Bare {
	all := map[string]impl.Bare{"": {}}
	put := func(b impl.Bare) { all[bareTextByRule(b)] = b }
	flat := slices.Concat(parts...)
	for _, e := range flat {
		put(prints(e))
		for _, name := range names {
			put(set(name, e))
		}
		for _, then := range flat {
			put(printsIf(e, then))
		}
	}
	return all
}

func TestAllShortRowsOfWordsOfBares(t *testing.T) {
	leaves := []impl.Expr{number(1), name("x")}
	readBares.checkAllTexts(t, 6, []string{"let", "x", ":", "=", "1", "print", "if", "say"}, " ", allBares([][]impl.Expr{leaves}, "x"))
	readBares.checkAllTexts(t, 6, []string{"print", "if", "x", ":", "=", "as", "int", "+"}, " ", allBares(partsOfSize(5, leaves[1:], []string{"+"}, nil), "x"))
	readBares.checkAllTexts(t, 8, []string{"print", "(", ")", "x", "-"}, " ", allBares(partsOfSize(7, leaves[1:], []string{"-"}, nil)))
	readBares.checkAllTexts(t, 8, []string{"if", ":", "print", "x", "*"}, " ", allBares(partsOfSize(7, leaves[1:], []string{"*"}, nil)))
	readBares.checkAllTexts(t, 7, []string{"x", "=", "(", ")", "-", "1"}, " ", allBares(partsOfSize(5, leaves, []string{"-"}, nil), "x"))
}

// All texts of up to eight bytes of a small alphabet: spaces are where they must be, and nowhere else.
func TestAllShortTextsOfBares(t *testing.T) {
	want := map[string]impl.Bare{"": {}}
	var names []string
	var grow func(text string)
	grow = func(text string) {
		if text != "" && text != "if" {
			names = append(names, text)
		}
		if len(text) < 5 {
			for _, letter := range []string{"i", "f"} {
				grow(text + letter)
			}
		}
	}
	grow("")
	for _, told := range names {
		for _, n := range []int{1, 11, 111, 1111} {
			want[fmt.Sprint(told, " = ", n)] = set(told, number(n))
		}
		for _, used := range names {
			want[told+" = "+used] = set(told, name(used))
		}
	}
	for text := range want {
		if len(text) > 8 {
			delete(want, text)
		}
	}
	readBares.checkAllTexts(t, 8, []string{"i", "f", "=", " ", "1"}, "", want)
}

func checkSameBares(t *testing.T, a impl.Bare, b impl.Bare, want bool) {
	t.Helper()
	if impl.BareSame(a, b) != want || impl.BareSame(b, a) != want {
		t.Errorf("%v and %v: want %v", a, b, want)
	}
}

// changedBares are copies of a line that differ from it in one thing.
func changedBares(b impl.Bare) []impl.Bare {
	var all []impl.Bare
	for _, kind := range []int{b.Kind + 1, -1 - b.Kind, b.Kind + 1<<32} {
		all = append(all, impl.Bare{Kind: kind, Name: b.Name, Expr: b.Expr, Then: b.Then})
	}
	for _, name := range []string{b.Name + " ", "other"} {
		all = append(all, impl.Bare{Kind: b.Kind, Name: name, Expr: b.Expr, Then: b.Then})
	}
	for _, e := range changedParts(b.Expr) {
		all = append(all, impl.Bare{Kind: b.Kind, Name: b.Name, Expr: e, Then: b.Then})
	}
	for _, e := range changedParts(b.Then) {
		all = append(all, impl.Bare{Kind: b.Kind, Name: b.Name, Expr: b.Expr, Then: e})
	}
	return all
}

func TestSameBares(t *testing.T) {
	s := steps(79)
	x, y := name("x"), name("y")
	// What is not ok can be the same, too.
	all := []impl.Bare{{}, {Kind: 9}, {Kind: -1, Name: "let", Expr: number(-1), Then: impl.Expr{Kids: []impl.Expr{x}}}, {Name: "x"}, {Expr: x}, {Then: x}, prints(as(x, "int")), printsIf(x, impl.Expr{}), printsIf(impl.Expr{}, x)}
	for range 60 {
		all = append(all, s.bareLine())
	}
	for _, b := range all {
		checkSameBares(t, b, b, true)
		other := b
		other.Expr, other.Then = copyParts(b.Expr), copyParts(b.Then)
		checkSameBares(t, b, other, true)
		for _, other := range changedBares(b) {
			checkSameBares(t, b, other, false)
		}
	}
	for _, a := range all {
		for _, b := range all {
			checkSameBares(t, a, b, sameBare(a, b))
		}
	}
	checkSameBares(t, printsIf(x, y), printsIf(y, x), false)
	checkSameBares(t, prints(x), impl.Bare{Kind: sayKind, Then: x}, false)
	checkSameBares(t, prints(as(x, "int")), prints(as(x, "bool")), false)
	checkSameBares(t, prints(as(x, "int")), prints(x), false)
	checkSameBares(t, set("x", y), set("y", y), false)
	checkSameBares(t, impl.Bare{}, impl.Bare{Expr: impl.Expr{Kids: []impl.Expr{}}, Then: impl.Expr{Kids: make([]impl.Expr, 0, 2)}}, true)
}

// Each function answers also where parts have no end, or hardly one, and where there are very many lines.
func TestBaresWithoutAnEnd(t *testing.T) {
	x := name("x")
	good := prints(number(1))
	for i, e := range []impl.Expr{loop("+", 1), loop("+", 2), doubled(200, x), within("as", x, 100000), within("first", x, 100000), {Kids: make([]impl.Expr, 100000)}} {
		for j, b := range []impl.Bare{set("x", e), prints(e), printsIf(e, x), printsIf(x, e), printsIf(e, e), {Expr: e}, {Then: e}, {Kind: sayKind, Expr: x, Then: e}, {Kind: letKind, Name: "x", Expr: x, Then: e}, {Kind: 7, Expr: e, Then: e}} {
			if impl.BareOk(b) || impl.BareText(b) != "" {
				t.Error("without an end, but ok:", i, j)
			}
			if !impl.BareSame(b, b) || impl.BareSame(b, impl.Bare{}) || impl.BareSame(good, b) || impl.BareSame(printsIf(x, x), b) {
				t.Error("same:", i, j)
			}
			for _, list := range [][]impl.Bare{{b}, {good, b}, {b, good}, slices.Repeat([]impl.Bare{b}, mostLines), slices.Repeat([]impl.Bare{b}, mostLines+1)} {
				if printed, ok := impl.BareRun(list); ok || len(printed) != 0 {
					t.Error("without an end, but run:", i, j, printed)
				}
			}
		}
		for j, s := range []impl.Stmt{let("x", "int", e), say(e), when(e, x), when(x, e), {Expr: e}, {Then: e}, {Kind: sayKind, Expr: x, Then: e}} {
			if b := impl.BareOf(s); !sameBare(b, impl.Bare{}) {
				t.Error("without an end, but turned:", i, j)
			}
		}
	}
	long := strings.Repeat("x", 3000000)
	for _, b := range []impl.Bare{{Name: long}, set(long, x), prints(name(long)), printsIf(x, name(long))} {
		if impl.BareOk(b) || impl.BareText(b) != "" {
			t.Error("ok with a long text")
		}
	}
	checkNotTurned(t, let(long, "int", x))
	checkNotRun(t, make([]impl.Bare, 1000000))
	for _, piece := range []string{"\n", "print 1\n", "x", " ", "\xff", "print 1 + "} {
		checkNotPrinted(t, strings.Repeat(piece, 1000000))
	}
}

func TestBaresAreNewMemory(t *testing.T) {
	s := steps(83)
	for range 300 {
		p := s.program(1+s.below(mostLines), 10)
		want, text := turnedByRule(p)
		var parts []impl.Expr
		for i, line := range p {
			one, other := impl.BareOf(line), impl.BareOf(line)
			first, _ := impl.BareRead(bareTextByRule(want[i]))
			second, _ := impl.BareRead(bareTextByRule(want[i]))
			for _, b := range []impl.Bare{one, other, first, second} {
				if !sameBare(b, want[i]) {
					t.Fatalf("%v, want %v", b, want[i])
				}
				parts = append(parts, b.Expr, b.Then)
			}
			parts = append(parts, line.Expr, line.Then)
		}
		checkNoSharing(t, parts...)
		said, all := saidByRule(p)
		for _, run := range []func() ([]int, bool){func() ([]int, bool) { return impl.BareRun(want) }, func() ([]int, bool) { return impl.BareAll(text) }} {
			one, _ := run()
			other, _ := run()
			overwrite(one, -7)
			// Looked at ahead of the next call, which would set right what both share.
			if !slices.Equal(other, said) {
				t.Fatalf("%q is printed into shared memory: %v, want %v", text, other, said)
			}
			if again, ok := run(); !slices.Equal(again, said) || ok != all {
				t.Fatalf("%q prints anew %v %v, want %v %v", text, again, ok, said, all)
			}
		}
	}
	// Kids that are one list in the argument are not one in the answer.
	kids := []impl.Expr{name("x"), number(1)}
	both := impl.Expr{Kind: twoKind, S: "+", Kids: kids}
	for _, line := range []impl.Stmt{when(two(both, "<", both), as(both, "int")), when(both, both), when(as(both, "bool"), both)} {
		turned := impl.BareOf(line)
		if turned.Kind != whenKind {
			t.Fatal(turned)
		}
		checkNoSharing(t, turned.Expr, turned.Then, both)
	}
	read, _ := impl.BareRead("if x + 1 < 2 : print x + 1 < 2")
	if read.Kind != whenKind {
		t.Fatal(read)
	}
	checkNoSharing(t, read.Expr, read.Then)
}

// allOfBares writes out lines with all that is in the room of their lists, and of the list of lines itself.
func allOfBares(list []impl.Bare) string {
	var text strings.Builder
	for _, b := range list[:cap(list)] {
		fmt.Fprintf(&text, "%d %q %s %s\n", b.Kind, b.Name, allRoom(b.Expr), allRoom(b.Then))
	}
	return text.String()
}

func TestBaresAreOnlyLookedAt(t *testing.T) {
	s := steps(89)
	var all [][]impl.Bare
	for range 200 {
		list, _ := turnedByRule(s.program(1+s.below(mostLines+2), 10))
		all = append(all, list)
	}
	for _, bad := range badBares() {
		if len(bad.Expr.Kids) < 9 {
			all = append(all, []impl.Bare{set("x", number(1)), bad, prints(name("x"))}, []impl.Bare{bad})
		}
	}
	for _, lines := range all {
		room := []impl.Bare{}
		for _, b := range append(slices.Clone(lines), prints(name("behind")), impl.Bare{Kind: -7, Name: "behind"}) {
			b.Expr, b.Then = withRoom(b.Expr), withRoom(b.Then)
			room = append(room, b)
		}
		list := room[:len(lines)]
		before := allOfBares(list)
		impl.BareRun(list)
		for i, b := range list {
			impl.BareOk(b)
			impl.BareSame(b, list[(i+1)%len(list)])
			impl.BareText(b)
		}
		if allOfBares(list) != before {
			t.Fatalf("written into %.300v", list)
		}
	}
	for range 300 {
		line := s.line()
		line.Expr, line.Then = withRoom(line.Expr), withRoom(line.Then)
		before := allOfLines([]impl.Stmt{line})
		impl.BareOf(line)
		if allOfLines([]impl.Stmt{line}) != before {
			t.Fatalf("written into %v", line)
		}
	}
}

// No call keeps anything for the next one: names that were told are told no more.
func TestBaresKeepNothing(t *testing.T) {
	for range 3 {
		checkPrints(t, baresOf(t, "x = 1", "print x"), "x = 1\nprint x", []int{1}, true)
		checkPrints(t, baresOf(t, "print x"), "print x", nil, false)
	}
}
