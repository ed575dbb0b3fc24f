package tests

import (
	"slices"
	"strings"
	"testing"

	"loop.example/interlinear/impl"
)

// namesByRule are the names of parts, from left to right, each once.
func namesByRule(parts ...impl.Expr) []string {
	var all []string
	for _, e := range parts {
		if e.Kind == nameKind {
			all = append(all, e.S)
		}
		all = append(all, namesByRule(e.Kids...)...)
	}
	var once []string
	for i, s := range all {
		if !slices.Contains(all[:i], s) {
			once = append(once, s)
		}
	}
	return once
}

// lineByRule is the text of a line as the document's table tells it, of one whose parts are ok.
func lineByRule(s impl.Stmt) string {
	switch s.Kind {
	case letKind:
		return "let " + s.Name + " : " + s.Type + " = " + wordsByTable(s.Expr, 0)
	case sayKind:
		return "say " + wordsByTable(s.Expr, 0)
	case whenKind:
		return "when " + wordsByTable(s.Expr, 0) + " say " + wordsByTable(s.Then, 0)
	}
	return ""
}

// widestPart is how wide a part of just so many parts, in so many levels, can be, with types or without; below 0, if there is none.
func widestPart(size int, levels int, must int, types bool) int {
	if size < 1 || levels < 1 {
		return -1000
	}
	if size == 1 {
		return len("longname")
	}
	widest := -1000
	if types {
		widest = widestPart(size-1, levels-1, 4, types) + len(" as bool")
	}
	for mark, hold := range holds {
		brackets := 0
		if hold < must {
			brackets = len("( ") + len(" )")
		}
		for left := 1; left < size-1; left++ {
			widest = max(widest, widestPart(left, levels-1, firstMust[mark], types)+len(" + ")+widestPart(size-1-left, levels-1, secondMust[mark], types)+brackets)
		}
	}
	return widest
}

// wideShapes are parts with a mark in the place of each name, from narrow to wide; with names of 1 to 8 letters they have each width of 1 to 93.
var wideShapes = []string{"?", "? + ?", "? + ? + ( ? + ? )", "? as bool + ? as bool + ( ? + ? )", "? as bool * ? as bool + ? as bool * ? as bool", "( ( ? as bool + ? as bool ) * ( ? as bool + ? as bool ) ) as bool"}

func partOfWidth(t *testing.T, width int, letter string) (impl.Expr, string) {
	t.Helper()
	return shapedPart(t, wideShapes, width, letter)
}

// shapedPart is a part whose words have just so many bytes, with one space between; its names have the letter.
func shapedPart(t *testing.T, shapes []string, width int, letter string) (impl.Expr, string) {
	t.Helper()
	for _, shape := range shapes {
		marks := strings.Count(shape, "?")
		more := width - len(shape)
		if more < 0 || more > 7*marks {
			continue
		}
		text := shape
		for range marks {
			letters := min(more, 7)
			text = strings.Replace(text, "?", strings.Repeat(letter, 1+letters), 1)
			more -= letters
		}
		e, ok := impl.ExprRead(strings.Fields(text))
		if !ok || len(text) != width || wordsByTable(e, 0) != text {
			t.Fatalf("%q of width %d is %v %v", text, width, e, ok)
		}
		return e, text
	}
	t.Fatal("no part of width", width)
	return impl.Expr{}, ""
}

// Each way to share out 116 bytes between what is asked and what is said, and one byte more in either of them.
func TestWidthOfWhens(t *testing.T) {
	const bothWidest = widestLine - len("when ") - len(" say ")
	for width := bothWidest - 93; width <= 93; width++ {
		first, firstText := partOfWidth(t, width, "a")
		second, secondText := partOfWidth(t, bothWidest-width, "b")
		text := "when " + firstText + " say " + secondText
		if len(text) != widestLine {
			t.Fatal("width", len(text))
		}
		checkStmt(t, when(first, second), text, strings.Join(namesByRule(first, second), " "))
		for more := 1; more <= 6; more++ {
			if width+more <= 93 {
				wider, widerText := partOfWidth(t, width+more, "a")
				checkTooWide(t, when(wider, second), "when "+widerText+" say "+secondText)
			}
			if bothWidest-width+more <= 93 {
				wider, widerText := partOfWidth(t, bothWidest-width+more, "b")
				checkTooWide(t, when(first, wider), "when "+firstText+" say "+widerText)
			}
		}
	}
	widest, text := partOfWidth(t, 93, "c")
	checkTooWide(t, when(widest, widest), "when "+text+" say "+text)
	checkStmt(t, when(widest, name("c")), "when "+text+" say c", strings.Join(namesByRule(widest, name("c")), " "))
}

// Parts that are ok are at most 93 bytes wide, so a StmtLet has at most 115 bytes, and a StmtSay 97: the bound of 116 refuses none of them.
func TestWidthOfLetsAndSays(t *testing.T) {
	widest := 0
	for size := 1; size <= mostParts; size++ {
		widest = max(widest, widestPart(size, mostAround+1, 0, true))
	}
	if widest != 93 {
		t.Fatal("the widest part has", widest, "bytes")
	}
	for width := 1; width <= widest; width++ {
		e, text := partOfWidth(t, width, "c")
		names := strings.Join(namesByRule(e), " ")
		checkStmt(t, let("longname", "bool", e), "let longname : bool = "+text, names)
		checkStmt(t, let("x", "int", e), "let x : int = "+text, names)
		checkStmt(t, say(e), "say "+text, names)
	}
	// What is wider still has a part too many, one too deep, or a name too long.
	_, text := partOfWidth(t, widest, "c")
	for _, wider := range []string{text + " as bool", text + " + c", strings.Replace(text, "cc", "ccc", 1), "1 + " + text, strings.Replace(text, "as", "as int as", 1)} {
		checkStmtNotRead(t, "let longname : bool = "+wider)
		checkStmtNotRead(t, "let x : int = "+wider)
		checkStmtNotRead(t, "say "+wider)
	}
}

// line makes a line whose parts are ok; it may be too wide.
func (s *steps) line() impl.Stmt {
	part := func() impl.Expr { return s.grow(1+s.below(mostParts), 1+s.below(mostAround+1)) }
	full := func() impl.Expr { return s.grow(mostParts-s.below(3), mostAround+1) }
	switch s.below(20) {
	case 0:
		return impl.Stmt{}
	case 1, 2, 3, 4, 5:
		return let([]string{"x", "y", "b", "longname", "lets"}[s.below(5)], []string{"int", "bool"}[s.below(2)], part())
	case 6, 7, 8, 9:
		return say(part())
	case 10, 11, 12, 13, 14:
		return when(full(), full())
	}
	return when(part(), part())
}

func TestManyStmtsByRule(t *testing.T) {
	s := steps(5)
	kinds, widths := map[int]int{}, map[int]int{}
	seen := map[string]impl.Stmt{}
	for range 60000 {
		line := s.line()
		text := lineByRule(line)
		kinds[line.Kind]++
		widths[len(text)]++
		if len(text) > widestLine {
			checkTooWide(t, line, text)
			continue
		}
		checkStmt(t, line, text, strings.Join(namesByRule(line.Expr, line.Then), " "))
		if other, ok := seen[text]; ok && !sameLine(line, other) {
			t.Fatalf("two lines have the text %q", text)
		}
		seen[text] = line
	}
	if kinds[noneKind] < 500 || kinds[letKind] < 5000 || kinds[sayKind] < 5000 || kinds[whenKind] < 5000 || widths[widestLine] < 20 || widths[widestLine+1] < 20 {
		t.Error("the lines are nearly all of one sort:", kinds, widths)
	}
}

// checkReadIsWritten looks whether a text, if it is read, is just that of the line that is read.
func checkReadIsWritten(t *testing.T, text string) bool {
	t.Helper()
	s, ok := impl.StmtRead(text)
	if !ok {
		checkStmtNotRead(t, text)
		return false
	}
	if !impl.StmtOk(s) || lineByRule(s) != text || impl.StmtText(s) != text {
		t.Fatalf("%q is read as %v", text, s)
	}
	return true
}

// changedTexts differ from the text of a line in a byte or a word. Those of never have a space or a newline too many, or a space too few; the others are the text of another line, or of none.
func changedTexts(text string) (never []string, others []string) {
	for at := range len(text) + 1 {
		never = append(never, text[:at]+" "+text[at:], text[:at]+"\n"+text[at:])
		others = append(others, text[:at], text[at:])
		for _, b := range []string{"x", "1", "(", ")", ":", "=", "+", "0", "as", "say", "print", "if", "\t", "\xff", "\u00e9", "X"} {
			others = append(others, text[:at]+b+text[at:])
			if at < len(text) {
				others = append(others, text[:at]+b+text[at+1:])
			}
		}
		if at < len(text) && text[at] == ' ' {
			never = append(never, text[:at]+text[at+1:])
		} else if at < len(text) {
			others = append(others, text[:at]+text[at+1:])
		}
	}
	words := strings.Fields(text)
	for at := range words {
		others = append(others, strings.Join(slices.Delete(slices.Clone(words), at, at+1), " "))
		others = append(others, strings.Join(slices.Insert(slices.Clone(words), at, words[at]), " "))
		for other := range at {
			swapped := slices.Clone(words)
			swapped[at], swapped[other] = swapped[other], swapped[at]
			others = append(others, strings.Join(swapped, " "))
		}
	}
	return never, others
}

func TestChangedTexts(t *testing.T) {
	s := steps(17)
	read, notRead := 0, 0
	for range 120 {
		text := lineByRule(s.line())
		if len(text) > widestLine {
			continue
		}
		never, others := changedTexts(text)
		for _, changed := range never {
			checkStmtNotRead(t, changed)
		}
		for _, changed := range others {
			if checkReadIsWritten(t, changed) {
				read++
			} else {
				notRead++
			}
		}
	}
	if read < 2000 || notRead < 20000 {
		t.Error("the texts are nearly all of one sort:", read, notRead)
	}
}

// A reading is how lines of one side are read, and which are the same.
type reading[T any] struct {
	read func(text string) (T, bool)
	same func(a T, b T) bool
}

var readStmts = reading[impl.Stmt]{impl.StmtRead, sameLine}

// checkAllTexts reads each row of up to so many pieces: those that are the text of a line, and no others, are read.
func (r reading[T]) checkAllTexts(t *testing.T, most int, pieces []string, between string, want map[string]T) {
	t.Helper()
	read := 0
	var try func(text string, left int)
	try = func(text string, left int) {
		got, ok := r.read(text)
		line, there := want[text]
		if ok != there || !r.same(got, line) {
			t.Fatalf("%q is read as %v %v, want %v %v", text, got, ok, line, there)
		}
		if ok {
			read++
		}
		if left == 0 {
			return
		}
		for _, piece := range pieces {
			if text == "" {
				try(piece, left-1)
			} else {
				try(text+between+piece, left-1)
			}
		}
	}
	try("", most)
	if read < 6 {
		t.Error("few texts are read:", read)
	}
}

// allLines are all lines that have these parts, by their texts.
func allLines(parts [][]impl.Expr, names []string, types []string) map[string]impl.Stmt {
	all := map[string]impl.Stmt{"": {}}
	put := func(s impl.Stmt) { all[lineByRule(s)] = s }
	flat := slices.Concat(parts...)
	for _, e := range flat {
		put(say(e))
		for _, name := range names {
			for _, typeName := range types {
				put(let(name, typeName, e))
			}
		}
		for _, then := range flat {
			put(when(e, then))
		}
	}
	return all
}

func TestAllShortRowsOfWords(t *testing.T) {
	leaves := []impl.Expr{number(1), name("x")}
	readStmts.checkAllTexts(t, 6, []string{"let", "x", ":", "int", "=", "1", "say", "when"}, " ", allLines([][]impl.Expr{leaves}, []string{"x"}, []string{"int"}))
	readStmts.checkAllTexts(t, 6, []string{"say", "when", "x", "1", "+", "as", "int", "("}, " ", allLines(partsOfSize(5, leaves, []string{"+"}, []string{"int"}), nil, nil))
	readStmts.checkAllTexts(t, 8, []string{"when", "say", "x", "*", "<"}, " ", allLines(partsOfSize(7, leaves[1:], []string{"*", "<"}, nil), nil, nil))
	readStmts.checkAllTexts(t, 8, []string{"say", "(", ")", "x", "-"}, " ", allLines(partsOfSize(7, leaves[1:], []string{"-"}, nil), nil, nil))
}

// All texts of up to eight bytes of a small alphabet: spaces are where they must be, and nowhere else.
func TestAllShortTextsOfLines(t *testing.T) {
	want := map[string]impl.Stmt{"": {}}
	var grow func(text string)
	grow = func(text string) {
		if text != "" && text != "as" && text != "say" {
			want["say "+text] = say(name(text))
		}
		if len(text) < 4 {
			for _, letter := range []string{"s", "a", "y"} {
				grow(text + letter)
			}
		}
	}
	grow("")
	want["say 1"], want["say 11"], want["say 111"], want["say 1111"] = say(number(1)), say(number(11)), say(number(111)), say(number(1111))
	readStmts.checkAllTexts(t, 8, []string{"s", "a", "y", " ", "1"}, "", want)
}

func checkSameStmts(t *testing.T, a impl.Stmt, b impl.Stmt, want bool) {
	t.Helper()
	if impl.StmtSame(a, b) != want || impl.StmtSame(b, a) != want {
		t.Errorf("%v and %v: want %v", a, b, want)
	}
}

// changedStmts are copies of a line that differ from it in one thing.
func changedStmts(s impl.Stmt) []impl.Stmt {
	var all []impl.Stmt
	alone := func(change func(*impl.Stmt)) {
		other := s
		change(&other)
		all = append(all, other)
	}
	alone(func(o *impl.Stmt) { o.Kind++ })
	alone(func(o *impl.Stmt) { o.Kind = -1 - o.Kind })
	alone(func(o *impl.Stmt) { o.Kind += 1 << 32 })
	alone(func(o *impl.Stmt) { o.Name += " " })
	alone(func(o *impl.Stmt) { o.Name = "other" })
	alone(func(o *impl.Stmt) { o.Type += " " })
	alone(func(o *impl.Stmt) { o.Type = "other" })
	for _, e := range changedParts(s.Expr) {
		alone(func(o *impl.Stmt) { o.Expr = e })
	}
	for _, e := range changedParts(s.Then) {
		alone(func(o *impl.Stmt) { o.Then = e })
	}
	return all
}

func TestSameStmts(t *testing.T) {
	s := steps(41)
	x, y := name("x"), name("y")
	// What is not ok can be the same, too.
	all := []impl.Stmt{{}, {Kind: 9}, {Kind: -1, Name: "let", Type: "text", Expr: number(-1), Then: impl.Expr{Kids: []impl.Expr{x}}}, {Name: "x"}, {Type: "x"}, {Expr: x}, {Then: x}, let("x", "", y), when(x, impl.Expr{}), when(impl.Expr{}, x)}
	for range 60 {
		all = append(all, s.line())
	}
	for _, line := range all {
		checkSameStmts(t, line, line, true)
		other := line
		other.Expr, other.Then = copyParts(line.Expr), copyParts(line.Then)
		checkSameStmts(t, line, other, true)
		for _, other := range changedStmts(line) {
			checkSameStmts(t, line, other, false)
		}
	}
	for _, a := range all {
		for _, b := range all {
			checkSameStmts(t, a, b, sameLine(a, b))
		}
	}
	checkSameStmts(t, when(x, y), when(y, x), false)
	checkSameStmts(t, say(x), impl.Stmt{Kind: sayKind, Then: x}, false)
	checkSameStmts(t, impl.Stmt{Name: "x"}, impl.Stmt{Type: "x"}, false)
	checkSameStmts(t, let("x", "int", y), let("x", "bool", y), false)
	checkSameStmts(t, let("x", "int", y), let("y", "int", y), false)
	checkSameStmts(t, impl.Stmt{}, impl.Stmt{Expr: impl.Expr{Kids: []impl.Expr{}}, Then: impl.Expr{Kids: make([]impl.Expr, 0, 2)}}, true)
}

// Each function answers also where parts have no end, or hardly one.
func TestStmtsWithoutAnEnd(t *testing.T) {
	x := name("x")
	for i, e := range []impl.Expr{loop("+", 1), loop("+", 2), doubled(200, x), within("as", x, 100000), {Kids: make([]impl.Expr, 100000)}} {
		for j, s := range []impl.Stmt{let("x", "int", e), say(e), when(e, x), when(x, e), when(e, e), {Expr: e}, {Then: e}, {Kind: sayKind, Expr: x, Then: e}, {Kind: letKind, Name: "x", Type: "int", Expr: x, Then: e}, {Kind: 7, Expr: e, Then: e}} {
			if impl.StmtOk(s) || impl.StmtText(s) != "" || len(impl.StmtNames(s)) != 0 {
				t.Error("without an end, but ok:", i, j)
			}
			if !impl.StmtSame(s, s) || impl.StmtSame(s, impl.Stmt{}) || impl.StmtSame(say(x), s) || impl.StmtSame(when(x, x), s) {
				t.Error("same:", i, j)
			}
		}
	}
	long := strings.Repeat("x", 3000000)
	for _, s := range []impl.Stmt{{Name: long}, {Type: long}, let(long, "int", x), let("x", long, x), say(name(long)), when(x, name(long))} {
		if impl.StmtOk(s) || impl.StmtText(s) != "" || len(impl.StmtNames(s)) != 0 {
			t.Error("ok with a long text")
		}
	}
}

// scribble writes into a list, and into the room behind its end.
func scribble(list []string) {
	room := list[:cap(list)]
	for i := range room {
		room[i] = "changed"
	}
}

func TestStmtsAreNewMemory(t *testing.T) {
	s := steps(61)
	for range 1000 {
		line := s.line()
		text := lineByRule(line)
		if len(text) > widestLine {
			continue
		}
		first, _ := impl.StmtRead(text)
		second, _ := impl.StmtRead(text)
		checkNoSharing(t, first.Expr, first.Then, second.Expr, second.Then)
		names, again := impl.StmtNames(line), impl.StmtNames(line)
		want := slices.Clone(again)
		scribble(names)
		if !slices.Equal(again, want) || !slices.Equal(impl.StmtNames(line), want) || !slices.Equal(impl.StmtNames(first), want) {
			t.Errorf("shared: %q, want %q", again, want)
		}
		if !sameLine(first, line) || !sameLine(second, line) || impl.StmtText(line) != text {
			t.Errorf("%q has been changed", text)
		}
	}
	// What is asked and what is said are two, also where they have the same words.
	both, _ := impl.StmtRead("when x + 1 < 2 as int say x + 1 < 2 as int")
	if both.Kind != whenKind {
		t.Fatal(both)
	}
	checkNoSharing(t, both.Expr, both.Then)
}

func TestStmtsAreOnlyLookedAt(t *testing.T) {
	s := steps(71)
	var all []impl.Stmt
	for range 300 {
		all = append(all, s.line())
	}
	for _, bad := range badParts() {
		if len(bad.Kids) < 9 {
			all = append(all, say(bad), when(bad, name("x")), let("x", "int", two(bad, "+", number(1))), impl.Stmt{Then: bad})
		}
	}
	for _, line := range all {
		line.Expr, line.Then = withRoom(line.Expr), withRoom(line.Then)
		other := line
		other.Expr, other.Then = withRoom(line.Expr), withRoom(line.Then)
		before := allRoom(line.Expr) + " " + allRoom(line.Then)
		impl.StmtOk(line)
		impl.StmtSame(line, other)
		impl.StmtText(line)
		impl.StmtNames(line)
		for _, one := range []impl.Stmt{line, other} {
			if allRoom(one.Expr)+" "+allRoom(one.Then) != before {
				t.Fatalf("written into %v", one)
			}
		}
	}
}
