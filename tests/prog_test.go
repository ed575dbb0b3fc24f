package tests

import (
	"slices"
	"strings"
	"testing"

	"loop.example/interlinear/impl"
)

// Bounds and answers are written out here, so that a change of a constant is seen.
const (
	mostLines = 16
	noProgram = -2
	noneWrong = -1
)

func samePrograms(a []impl.Stmt, b []impl.Stmt) bool {
	return slices.EqualFunc(a, b, sameLine)
}

// checkProg looks whether lines are a program with this text, and are read from it.
func checkProg(t *testing.T, p []impl.Stmt, text string) {
	t.Helper()
	if !impl.ProgOk(p) {
		t.Errorf("%q is not ok: %v", text, p)
	}
	if got := impl.ProgText(p); got != text {
		t.Errorf("text %q, want %q", got, text)
	}
	if got, ok := impl.ProgRead(text); !ok || !samePrograms(got, p) {
		t.Errorf("%q is read as %v %v, want %v", text, got, ok, p)
	}
}

// checkDoes looks which line of a program is the first that is not as it must be, what it says, and whether it says all.
func checkDoes(t *testing.T, p []impl.Stmt, wrong int, said []int, all bool) {
	t.Helper()
	if got := impl.ProgType(p); got != wrong {
		t.Errorf("%q: the line that is not as it must be is %d, want %d", impl.ProgText(p), got, wrong)
	}
	if got, ok := impl.ProgRun(p); ok != all || !slices.Equal(got, said) {
		t.Errorf("%q says %v %v, want %v %v", impl.ProgText(p), got, ok, said, all)
	}
}

// checkNoProg looks for the fixed answers to what is no program.
func checkNoProg(t *testing.T, p []impl.Stmt) {
	t.Helper()
	if impl.ProgOk(p) {
		t.Errorf("ok: %.200v", p)
	}
	if text := impl.ProgText(p); text != "" {
		t.Errorf("text %q of %.200v", text, p)
	}
	if got := impl.ProgType(p); got != noProgram {
		t.Errorf("type %d of %.200v", got, p)
	}
	if said, ok := impl.ProgRun(p); ok || len(said) != 0 {
		t.Errorf("%.200v says %v %v", p, said, ok)
	}
}

func checkProgNotRead(t *testing.T, text string) {
	t.Helper()
	if p, ok := impl.ProgRead(text); ok || len(p) != 0 {
		t.Errorf("%.200q is read as %v %v", text, p, ok)
	}
}

// progOf makes a program of the texts of its lines.
func progOf(t *testing.T, lines ...string) []impl.Stmt {
	t.Helper()
	var p []impl.Stmt
	for _, line := range lines {
		s, ok := impl.StmtRead(line)
		if !ok {
			t.Fatalf("%q is no line", line)
		}
		p = append(p, s)
	}
	return p
}

// A doing is a program, written as text, and what it does.
type doing struct {
	text  string
	wrong int
	said  []int
	all   bool
}

func checkDoings(t *testing.T, list []doing) {
	t.Helper()
	for _, c := range list {
		p := progOf(t, strings.Split(c.text, "\n")...)
		checkProg(t, p, c.text)
		checkDoes(t, p, c.wrong, c.said, c.all)
	}
}

func TestBoundsOfPrograms(t *testing.T) {
	if impl.ProgMost != mostLines || impl.ProgForm != noProgram {
		t.Error("bounds", impl.ProgMost, impl.ProgForm)
	}
}

func TestProgramsByHand(t *testing.T) {
	x, b := name("x"), name("b")
	one, three := number(1), number(3)
	less := two(x, "<", three)
	for _, c := range []struct {
		p []impl.Stmt
		doing
	}{
		{[]impl.Stmt{say(one)}, doing{"say 1", noneWrong, []int{1}, true}},
		{[]impl.Stmt{let("x", "int", one)}, doing{"let x : int = 1", noneWrong, nil, true}},
		{[]impl.Stmt{let("b", "bool", two(one, "<", three))}, doing{"let b : bool = 1 < 3", noneWrong, nil, true}},
		{[]impl.Stmt{when(two(one, "<", three), three)}, doing{"when 1 < 3 say 3", noneWrong, []int{3}, true}},
		{[]impl.Stmt{say(one), {}, say(three)}, doing{"say 1\n\nsay 3", noneWrong, []int{1, 3}, true}},
		{[]impl.Stmt{say(three), say(one), say(three)}, doing{"say 3\nsay 1\nsay 3", noneWrong, []int{3, 1, 3}, true}},
		{[]impl.Stmt{let("x", "int", three), say(x)}, doing{"let x : int = 3\nsay x", noneWrong, []int{3}, true}},
		{[]impl.Stmt{let("x", "int", one), let("b", "bool", less), say(b), when(b, two(x, "-", three))},
			doing{"let x : int = 1\nlet b : bool = x < 3\nsay b\nwhen b say x - 3", noneWrong, []int{1, -2}, true}},
		{[]impl.Stmt{{}, let("x", "int", three), when(less, x), say(as(two(x, "+", one), "bool")), {}},
			doing{"\nlet x : int = 3\nwhen x < 3 say x\nsay ( x + 1 ) as bool\n", noneWrong, []int{4}, true}},
		{[]impl.Stmt{let("x", "int", one), say(b), say(x)}, doing{"let x : int = 1\nsay b\nsay x", 1, nil, false}},
	} {
		checkProg(t, c.p, c.text)
		checkDoes(t, c.p, c.wrong, c.said, c.all)
	}
}

// The program of the document's example, as lines and with what they say.
func TestProgramOfTheExample(t *testing.T) {
	checkDoings(t, []doing{
		{"let x : int = 2\nsay x as int", noneWrong, []int{2}, true},
		{"let x : int = 2\nsay x as int\nwhen x < 3 say ( x + 1 ) as int * 2", noneWrong, []int{2, 6}, true},
	})
	checkProgNotRead(t, "let x : int = 2\nsay x as int\nwhen x < 3 say ( x + 1 ) as int * 2\nsay")
}

// The empty text is that of the program of one line that is nothing, and newlines alone are those of several.
func TestProgramsOfNothing(t *testing.T) {
	for count := 1; count <= mostLines; count++ {
		p := make([]impl.Stmt, count)
		checkProg(t, p, strings.Repeat("\n", count-1))
		checkDoes(t, p, noneWrong, nil, true)
	}
	checkProg(t, []impl.Stmt{{Kind: noneKind, Expr: impl.Expr{Kids: []impl.Expr{}}, Then: impl.Expr{Kids: make([]impl.Expr, 0, 3)}}}, "")
	for _, none := range [][]impl.Stmt{nil, {}, make([]impl.Stmt, 0, 5)} {
		checkNoProg(t, none)
	}
	for _, count := range []int{mostLines + 1, mostLines + 2, 100, 256, 257, 256 + mostLines, 4001, 1 << 16, 1<<16 + 1} {
		checkNoProg(t, make([]impl.Stmt, count))
		checkProgNotRead(t, strings.Repeat("\n", count-1))
	}
}

// whenOfWidth is a StmtWhen of just so many bytes, which may be too many.
func whenOfWidth(t *testing.T, width int) (impl.Stmt, string) {
	t.Helper()
	const asked = 50
	first, firstText := partOfWidth(t, asked, "a")
	second, secondText := partOfWidth(t, width-asked-len("when ")-len(" say "), "b")
	return when(first, second), "when " + firstText + " say " + secondText
}

func TestHowManyLines(t *testing.T) {
	wide, wideText := whenOfWidth(t, widestLine)
	for text, s := range map[string]impl.Stmt{
		"say 1": say(number(1)), "let x : int = 2": let("x", "int", number(2)), "when 1 < 2 say 3": when(two(number(1), "<", number(2)), number(3)), "": {},
		wideText: wide,
	} {
		for count := 1; count <= mostLines; count++ {
			checkProg(t, slices.Repeat([]impl.Stmt{s}, count), strings.Join(slices.Repeat([]string{text}, count), "\n"))
		}
		for _, count := range []int{mostLines + 1, mostLines + 2, 2 * mostLines, 256 + 1, 1000} {
			checkNoProg(t, slices.Repeat([]impl.Stmt{s}, count))
			checkProgNotRead(t, strings.Join(slices.Repeat([]string{text}, count), "\n"))
		}
		// The one line more may be any one, and at any place.
		for at := range mostLines + 1 {
			for more, line := range map[string]impl.Stmt{"": {}, "say 7": say(number(7))} {
				checkNoProg(t, slices.Insert(slices.Repeat([]impl.Stmt{s}, mostLines), at, line))
				checkProgNotRead(t, strings.Join(slices.Insert(slices.Repeat([]string{text}, mostLines), at, more), "\n"))
			}
		}
	}
	var said []int
	full := []impl.Stmt{}
	for n := range mostLines {
		full, said = append(full, say(number(n*n))), append(said, n*n)
	}
	checkDoes(t, full, noneWrong, said, true)
	// Room behind the lines does not count.
	room := append(full, say(name("x")), impl.Stmt{Kind: 9})
	checkDoes(t, room[:mostLines], noneWrong, said, true)
	checkNoProg(t, room[:mostLines+1])
	checkDoes(t, room[:1], noneWrong, []int{0}, true)
	checkNoProg(t, room[:0])
}

func TestNameToldTwice(t *testing.T) {
	checkDoings(t, []doing{
		// With the same type and number, and with others.
		{"let x : int = 1\nlet x : int = 1\nsay x", noneWrong, []int{1}, true},
		{"let x : int = 1\nsay x\nlet x : int = 2\nsay x", noneWrong, []int{1, 2}, true},
		{"let x : int = 1\nlet x : int = 2\nsay x + x", noneWrong, []int{4}, true},
		{"let x : int = 5\nlet x : int = 0\nsay x", noneWrong, []int{0}, true},
		{"let x : int = 0\nlet x : int = 5\nsay x", noneWrong, []int{5}, true},
		{"let x : int = 1\nlet x : int = 2\nlet x : int = 3\nsay x", noneWrong, []int{3}, true},
		{"let x : int = 3\nlet y : int = 4\nlet x : int = 5\nsay x\nsay y", noneWrong, []int{5, 4}, true},
		// What was reckoned with the first number stays as it was.
		{"let x : int = 3\nlet y : int = x\nlet x : int = 5\nsay y", noneWrong, []int{3}, true},
		// The last type counts, ahead of it the one ahead.
		{"let x : int = 1\nlet x : bool = 1 < 2\nsay x + 1", 2, []int{2}, true},
		{"let x : int = 1\nlet x : bool = 1 < 2\nwhen x say 7", noneWrong, []int{7}, true},
		{"let x : int = 1\nwhen x say 7\nlet x : bool = 1 < 2", 1, []int{7}, true},
		{"let x : int = 1\nsay x + 1\nlet x : bool = 2 < 1\nsay x\nwhen x say 7", noneWrong, []int{2, 0}, true},
		{"let x : bool = 1 < 2\nlet x : int = 1\nsay x + 1", noneWrong, []int{2}, true},
		{"let x : bool = 1 < 2\nlet x : int = 1\nwhen x say 7", 2, []int{7}, true},
		{"let x : bool = 1 < 2\nlet x : int = 1\nlet x : bool = 1 as bool\nwhen x say 7\nsay x + 1", 4, []int{7, 2}, true},
		{"let x : bool = 1 < 2\nsay x + 1\nlet x : int = 1\nsay x + 1", 1, []int{2, 2}, true},
		// The same number with another type.
		{"let x : int = 1\nlet x : bool = 1 as bool\nlet y : bool = x", noneWrong, nil, true},
		{"let x : int = 1\nlet x : bool = 1 as bool\nlet y : int = x", 2, nil, true},
		// Names that begin alike are not the same.
		{"let x : int = 1\nlet xx : bool = 1 < 2\nsay x + 1\nwhen xx say x", noneWrong, []int{2, 1}, true},
		{"let abcdefgh : int = 1\nlet abcdefg : int = 2\nsay abcdefgh", noneWrong, []int{1}, true},
	})
}

func TestLineThatUsesTheNameItTells(t *testing.T) {
	checkDoings(t, []doing{
		// Not told ahead.
		{"let x : int = x", 0, nil, false},
		{"let x : bool = x", 0, nil, false},
		{"let x : int = x as int", 0, nil, false},
		{"let x : int = x + 1\nsay x", 0, nil, false},
		{"let x : int = 0 * x\nsay x", 0, nil, false},
		{"say 4\nlet x : int = 1 - x\nlet x : int = 1\nsay x", 1, []int{4}, false},
		{"let y : int = 1\nlet x : int = x + y\nsay y", 1, nil, false},
		{"let x : bool = x < 1", 0, nil, false},
		// Told ahead.
		{"let x : int = 1\nlet x : int = x\nsay x", noneWrong, []int{1}, true},
		{"let x : int = 2\nlet x : int = x + 5\nsay x", noneWrong, []int{7}, true},
		{"let x : int = 2\nlet x : int = x * x\nlet x : int = x * x\nlet x : int = x - 1\nsay x", noneWrong, []int{15}, true},
		{"let x : int = 2\nlet x : bool = x < 3\nsay x", noneWrong, []int{1}, true},
		{"let x : int = 2\nlet x : bool = x < 3\nlet x : bool = x < 3", 2, nil, true},
		{"let x : int = 2\nlet x : bool = x", 1, nil, true},
		{"let x : bool = 1 < 2\nlet x : int = x", 1, nil, true},
		{"let x : bool = 1 < 2\nlet x : int = x as int + 1\nsay x", noneWrong, []int{2}, true},
		{"let x : bool = 1 < 2\nlet x : int = x + 1\nsay x", 1, []int{2}, true},
		{"let x : int = 1\nlet y : int = x\nlet x : int = y + 1\nlet y : int = x + y\nsay x\nsay y", noneWrong, []int{2, 3}, true},
		// Told by another line only, or behind.
		{"let y : int = 1\nlet x : int = x", 1, nil, false},
		{"let x : int = x\nlet x : int = 1", 0, nil, false},
	})
}

func TestNameToldOnlyBehind(t *testing.T) {
	checkDoings(t, []doing{
		{"say x\nlet x : int = 1", 0, nil, false},
		{"say 5\nsay x\nlet x : int = 1\nsay x", 1, []int{5}, false},
		{"let y : int = x\nlet x : int = 1\nsay y", 0, nil, false},
		{"when x < 1 say 1\nlet x : int = 0", 0, nil, false},
		{"when 1 < 2 say x\nlet x : int = 1", 0, nil, false},
		{"when b say 1\nlet b : bool = 1 < 2", 0, nil, false},
		{"let x : int = y\nlet y : int = x", 0, nil, false},
		{"let x : int = 1\nsay x\nsay y\nlet y : int = 1", 2, []int{1}, false},
		{"let x : int = 1\nsay x\n\nlet y : int = x\nsay y", noneWrong, []int{1, 1}, true},
		// Never told.
		{"say x", 0, nil, false}, {"say x as int", 0, nil, false}, {"say 1 + x * 0", 0, nil, false}, {"say x < x", 0, nil, false},
		{"let y : int = x", 0, nil, false}, {"let y : bool = x as bool", 0, nil, false},
		{"when x say 1", 0, nil, false}, {"when x as bool say 1", 0, nil, false}, {"when 1 < 2 say x", 0, nil, false}, {"when 1 < 2 say x as int", 0, nil, false},
	})
}

func TestTypesOfLines(t *testing.T) {
	checkDoings(t, []doing{
		// Expr of a StmtLet must have its Type.
		{"let x : int = 1 < 2\nsay x", 0, []int{1}, true},
		{"let x : bool = 1\nsay x", 0, []int{1}, true},
		{"let x : bool = 1 + 2", 0, nil, true},
		{"let x : int = 1 as int", noneWrong, nil, true},
		{"let x : int = 1 as bool", 0, nil, true},
		{"let x : bool = 7 as bool\nsay x", noneWrong, []int{7}, true},
		{"let x : int = ( 1 < 2 ) as int", noneWrong, nil, true},
		{"let x : int = ( 1 < 2 ) + 1\nsay x", 0, []int{2}, true},
		{"let x : bool = ( 1 < 2 ) < 3", 0, nil, true},
		{"let x : bool = ( 1 + ( 1 < 2 ) ) as bool", 0, nil, true},
		// Expr of a StmtSay must have a type, whichever it is.
		{"say 1", noneWrong, []int{1}, true},
		{"say 2 < 1", noneWrong, []int{0}, true},
		{"say 1 as bool", noneWrong, []int{1}, true},
		{"say 1 + 2 as bool", 0, []int{3}, true},
		{"say ( 1 < 2 ) * 3", 0, []int{3}, true},
		{"say ( 1 as bool + 1 ) as int", 0, []int{2}, true},
		// Expr of a StmtWhen must be a bool, and its Then must have a type, whichever it is.
		{"when 1 say 2", 0, []int{2}, true},
		{"when 0 say 2", 0, nil, true},
		{"when 1 as int say 2", 0, []int{2}, true},
		{"when 1 as bool say 2", noneWrong, []int{2}, true},
		{"when 1 < 2 say 2 < 1", noneWrong, []int{0}, true},
		{"when 1 < 2 say 2 as bool", noneWrong, []int{2}, true},
		{"when 1 < 2 say 1 + ( 1 < 2 )", 0, []int{2}, true},
		{"when 1 < 1 say 1 + ( 1 < 2 )", 0, nil, true},
		{"when ( 1 < 2 ) < 3 say 1", 0, []int{1}, true},
		{"when ( 1 < 2 ) + 0 say 1 as bool + 1", 0, []int{2}, true},
		{"when 1 + 1 say 2", 0, []int{2}, true},
		// With names.
		{"let b : bool = 1 < 2\nwhen b say b", noneWrong, []int{1}, true},
		{"let b : bool = 1 < 2\nwhen b say b + 1", 1, []int{2}, true},
		{"let n : int = 1\nwhen n say n", 1, []int{1}, true},
		{"let n : int = 1\nwhen n as bool say n", noneWrong, []int{1}, true},
		{"let n : int = 1\nlet b : bool = n", 1, nil, true},
		{"let n : int = 1\nlet b : bool = n as bool\nlet m : int = b", 2, nil, true},
		// The type of a name is the Type that it was told with, not that of what is reckoned.
		{"let b : bool = 1 as bool\nlet n : int = b as int\nsay n + 1\nsay b + 1", 3, []int{2, 2}, true},
	})
}

// Of several lines that are not as they must be the first is told, and what is said does not hang on types.
func TestFirstLineThatIsNotAsItMustBe(t *testing.T) {
	checkDoings(t, []doing{
		{"say ( 1 < 2 ) + 1\nwhen 1 say 2\nlet x : bool = 3", 0, []int{2, 2}, true},
		{"say 1\nwhen 1 say 2\nlet x : bool = 3\nsay x + 1", 1, []int{1, 2, 4}, true},
		{"say 1\n\nlet x : bool = 3\nwhen 1 say 2", 2, []int{1, 2}, true},
		{"\n\n\nwhen 4 say 5\nsay y\nsay z", 3, []int{5}, false},
		{"say 1\nsay y\nwhen 4 say 5", 1, []int{1}, false},
		{"let x : int = 2\nsay x < 1\nwhen x say 1", 2, []int{0, 1}, true},
	})
	right, wrong := "say 1", "when 1 say 2"
	for first := range mostLines {
		for second := first + 1; second <= mostLines; second++ {
			lines := slices.Repeat([]string{right}, mostLines)
			said := slices.Repeat([]int{1}, mostLines)
			lines[first], said[first] = wrong, 2
			if second < mostLines {
				lines[second], said[second] = wrong, 2
			}
			checkDoes(t, progOf(t, lines...), first, said, true)
		}
	}
}

func TestWhensThatSay(t *testing.T) {
	checkDoings(t, []doing{
		// Expr comes to 0, to 1 and to other numbers.
		{"when 2 < 1 say 5", noneWrong, nil, true},
		{"when 1 < 2 say 5", noneWrong, []int{5}, true},
		{"when 0 as bool say 5", noneWrong, nil, true},
		{"when 1 as bool say 5", noneWrong, []int{5}, true},
		{"when 2 as bool say 5", noneWrong, []int{5}, true},
		{"when 256 as bool say 5", noneWrong, []int{5}, true},
		{"when 1000000 as bool say 5", noneWrong, []int{5}, true},
		{"when ( 0 - 1 ) as bool say 5", noneWrong, []int{5}, true},
		{"when ( 0 - 1000000 ) as bool say 5", noneWrong, []int{5}, true},
		{"when ( 3 - 3 ) as bool say 5", noneWrong, nil, true},
		{"when 0 say 5", 0, nil, true},
		{"when 7 say 5", 0, []int{5}, true},
		// What is said may be 0, or what is asked itself.
		{"when 1 < 2 say 0", noneWrong, []int{0}, true},
		{"when 1 < 2 say 1 - 2", noneWrong, []int{-1}, true},
		{"when 2 < 1 say 0", noneWrong, nil, true},
		{"when 1 < 2 say 1 < 2", noneWrong, []int{1}, true},
		{"let x : int = 4\nwhen x < 5 say x\nwhen x < 4 say x\nwhen 3 < x say x * x", noneWrong, []int{4, 16}, true},
		// Both are reckoned, whatever Expr comes to.
		{"when 2 < 1 say x", 0, nil, false},
		{"say 3\nwhen 2 < 1 say x\nsay 4", 1, []int{3}, false},
		{"say 3\nwhen 1 < 2 say x\nsay 4", 1, []int{3}, false},
		{"say 3\nwhen x say 9\nsay 4", 1, []int{3}, false},
		{"say 3\nwhen x < 1 say x\nsay 4", 1, []int{3}, false},
		{"let b : bool = 2 < 1\nwhen b say 1 + x", 1, nil, false},
		{"let b : bool = 2 < 1\nwhen b say 1\nwhen b say b", noneWrong, nil, true},
		// A line that says nothing does not end the program.
		{"when 2 < 1 say 5\nsay 6\nwhen 1 < 2 say 7", noneWrong, []int{6, 7}, true},
	})
}

func TestNumbersThatAreCut(t *testing.T) {
	checkDoings(t, []doing{
		{"let x : int = 1000000\nsay x", noneWrong, []int{1000000}, true},
		{"let x : int = 1000000 + 1\nsay x\nsay x - 1", noneWrong, []int{1000000, 999999}, true},
		{"let x : int = 0 - 1000000 - 1\nsay x\nsay x + 1", noneWrong, []int{-1000000, -999999}, true},
		{"let x : int = 1000000 * 1000000\nlet y : int = x - 1000000\nsay y\nsay x", noneWrong, []int{0, 1000000}, true},
		{"let x : int = 999999 + 1\nlet y : int = x + 1\nsay x < y", noneWrong, []int{0}, true},
		{"let x : int = 0 - 1000000\nlet y : int = x * x\nsay y\nlet z : int = x * y\nsay z", noneWrong, []int{1000000, -1000000}, true},
		{"let x : int = 1000\nlet x : int = x * x\nlet x : int = x * x\nlet x : int = x * x\nsay x\nwhen x < 1000000 say 1", noneWrong, []int{1000000}, true},
		{"say 1000000 + 1\nsay 0 - 1000000 - 1\nwhen 1 < 2 say 1000 * 1001", noneWrong, []int{1000000, -1000000, 1000000}, true},
		{"when ( 1000000 + 1 - 1000000 ) as bool say 1", noneWrong, nil, true},
	})
}

// What was said ahead of the line that can not be reckoned is told, at whichever place that line is.
func TestWhatWasSaidAhead(t *testing.T) {
	for at := range mostLines {
		for _, stuck := range []string{"say x", "let y : int = x", "let x : int = x + 1", "when x say 1", "when 1 < 2 say x", "when 2 < 1 say x"} {
			var lines []string
			var said []int
			for n := range mostLines {
				lines = append(lines, "say "+[]string{"3", "1", "4"}[n%3])
				if n < at {
					said = append(said, []int{3, 1, 4}[n%3])
				}
			}
			lines[at] = stuck
			checkDoes(t, progOf(t, lines...), at, said, false)
			// A second line that can not be reckoned, or one that tells the name, changes nothing behind it.
			for _, last := range []string{"say y", "let x : int = 1"} {
				if at < mostLines-1 {
					lines[mostLines-1] = last
					checkDoes(t, progOf(t, lines...), at, said, false)
				}
			}
		}
	}
}

// badLines are lines that are not ok.
func badLines() []impl.Stmt {
	x := name("x")
	deep := within("second", name("y"), mostAround+1)
	all := []impl.Stmt{
		{Kind: -1}, {Kind: 4}, {Kind: 1 << 32}, {Kind: 1<<32 + sayKind, Expr: x}, {Name: "x"}, {Type: "int"}, {Expr: x}, {Then: x},
		{Kind: letKind}, {Kind: sayKind}, {Kind: whenKind}, let("", "int", x), let("int", "int", x), let("say", "int", x), let("X", "int", x), let("x", "", x), let("x", "text", x), let("x", "int", impl.Expr{}),
		let("abcdefghi", "int", x), {Kind: letKind, Name: "x", Type: "int", Expr: x, Then: x}, {Kind: sayKind, Name: "x", Expr: x}, {Kind: sayKind, Type: "int", Expr: x}, {Kind: sayKind, Expr: x, Then: x}, {Kind: sayKind, Then: x},
		when(x, impl.Expr{}), when(impl.Expr{}, x), {Kind: whenKind, Name: "x", Expr: x, Then: x}, {Kind: whenKind, Type: "bool", Expr: x, Then: x}, say(deep), let("x", "int", deep), when(deep, x), when(x, deep),
		say(number(-1)), say(number(mostNumber + 1)), say(name("let")), say(name("")), say(name("x ")), say(two(x, "/", x)), say(as(x, "text")),
	}
	for _, bad := range badParts() {
		all = append(all, say(bad), let("x", "int", as(bad, "int")), when(bad, x), when(x, two(bad, "+", x)))
	}
	return all
}

// withOne are lists that have one thing: alone, twice, at each place of a list, and at some places of one that is full.
func withOne[T any](list []T, one T) [][]T {
	all := [][]T{{one}, {one, one}}
	for at := range len(list) + 1 {
		all = append(all, slices.Insert(slices.Clone(list), at, one))
	}
	for _, at := range []int{0, 7, mostLines - 1} {
		full := slices.Repeat(list, mostLines/len(list))
		full[at] = one
		all = append(all, full)
	}
	return all
}

func TestLinesThatAreNotOk(t *testing.T) {
	good := []impl.Stmt{let("x", "int", number(1)), say(name("x")), {}, when(two(number(1), "<", number(2)), name("x"))}
	checkDoes(t, good, noneWrong, []int{1, 1}, true)
	for _, bad := range badLines() {
		for _, p := range withOne(good, bad) {
			checkNoProg(t, p)
		}
		// It is no program also if an earlier line can not be reckoned, or has no type.
		checkNoProg(t, []impl.Stmt{say(name("y")), bad})
		checkNoProg(t, []impl.Stmt{when(number(1), number(2)), bad})
	}
	// Lines of which only the width is not as it must be.
	tooWide, wideText := whenOfWidth(t, widestLine+1)
	for at := range len(good) + 1 {
		checkNoProg(t, slices.Insert(slices.Clone(good), at, tooWide))
		checkProgNotRead(t, strings.Join(slices.Insert([]string{"let x : int = 1", "say x", "", "when 1 < 2 say x"}, at, wideText), "\n"))
	}
}

func TestTextsWithALineThatIsNotRead(t *testing.T) {
	good := []string{"let x : int = 1", "say x", "", "when 1 < 2 say x"}
	checkProg(t, progOf(t, good...), strings.Join(good, "\n"))
	for _, bad := range []string{
		" ", "  ", "say", "say ", " say 1", "say  1", "say 1 ", "say ( 1 )", "say 01", "say 1000001", "say 1 say 2", "say let", "let", "let x = 1", "let x : int = ", "let int : int = 1", "let x : text = 1", "let x:int=1", "when x", "when x say", "when say 1", "print 1", "x = 1", "if x : print 1", "x", "1", "Say 1", "say 1;", "say 1 # one", "say abcdefghi", "say x as y",
		"say 1 < 2 < 3", "say 1 +", "-", "say 1\r", "\r", "\t", "say\t1", "say \u00e9", "\x00", "\xff", "say 1\x00", "\ufeff", strings.Repeat(" ", wideBytes), strings.Repeat("x", wideBytes), strings.Repeat("x", wideBytes+1),
	} {
		checkProgNotRead(t, bad)
		for at := range len(good) + 1 {
			checkProgNotRead(t, strings.Join(slices.Insert(slices.Clone(good), at, bad), "\n"))
		}
		checkProgNotRead(t, strings.Join(append(make([]string, mostLines-1), bad), "\n"))
	}
}

// A newline too many makes a line that is nothing, where it does not cut one; a newline too few makes of two lines none.
func TestNewlinesTooManyOrTooFew(t *testing.T) {
	lines := []string{"let x : int = 1", "say x + 2", "when x < 3 say x", "say 4"}
	text := strings.Join(lines, "\n")
	for at := range len(lines) + 1 {
		more := slices.Insert(slices.Clone(lines), at, "")
		p := progOf(t, more...)
		checkProg(t, p, strings.Join(more, "\n"))
		checkDoes(t, p, noneWrong, []int{3, 1, 4}, true)
	}
	for at := range len(text) + 1 {
		more := text[:at] + "\n" + text[at:]
		if _, ok := impl.ProgRead(more); ok {
			checkProg(t, progOf(t, strings.Split(more, "\n")...), more)
		}
		if at > 0 && at < len(text) && text[at-1] == ' ' {
			checkProgNotRead(t, more)
			checkProgNotRead(t, text[:at-1]+"\n"+text[at-1:])
		}
		if at < len(text) && text[at] == '\n' {
			for _, between := range []string{"", " ", "  ", ";", "\r", "\r\n", "\n\r", "\\n", "\v", "\f", "\x00", "\u0085", "\u2028"} {
				checkProgNotRead(t, text[:at]+between+text[at+1:])
			}
		}
	}
	full := strings.Join(slices.Repeat([]string{"say 1"}, mostLines), "\n")
	checkProg(t, progOf(t, strings.Split(full, "\n")...), full)
	checkProgNotRead(t, full+"\n")
	checkProgNotRead(t, "\n"+full)
	checkProgNotRead(t, strings.Replace(full, "\n", "\n\n", 1))
	checkProgNotRead(t, strings.Replace(full, "\n", "", 1))
	checkProgNotRead(t, "say 1\nsay 2\r\n")
	checkProgNotRead(t, "say\n1")
	checkProgNotRead(t, "say 1 +\n2")
}

func TestTextsThatAreNotOkAreNoPrograms(t *testing.T) {
	for why, text := range badTexts() {
		t.Run(why, func(t *testing.T) {
			for _, one := range []string{text, "say 1\n" + text, text + "\nsay 1", "\n" + text} {
				checkProgNotRead(t, one)
			}
		})
	}
	for b := range 256 {
		if b == '\n' {
			continue
		}
		checkProgNotRead(t, "\n"+string([]byte{byte(b)})+"\nsay 1")
		if b < '0' || b > '9' {
			checkProgNotRead(t, "say 1\nsay 2"+string([]byte{byte(b)}))
		}
	}
	for text := range goodTexts() {
		if p, ok := impl.ProgRead(text); ok {
			checkProg(t, p, text)
		}
	}
}
