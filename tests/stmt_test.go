package tests

import (
	"math"
	"slices"
	"strings"
	"testing"

	"loop.example/interlinear/impl"
)

// Bounds and kinds are written out here, so that a change of a constant is seen.
const (
	widestLine = 116
	noneKind   = 0
	letKind    = 1
	sayKind    = 2
	whenKind   = 3
)

// let, say and when make lines of each kind that has words, also ones that are not ok.
func let(name string, typeName string, e impl.Expr) impl.Stmt {
	return impl.Stmt{Kind: letKind, Name: name, Type: typeName, Expr: e}
}

func say(e impl.Expr) impl.Stmt {
	return impl.Stmt{Kind: sayKind, Expr: e}
}

func when(e impl.Expr, then impl.Expr) impl.Stmt {
	return impl.Stmt{Kind: whenKind, Expr: e, Then: then}
}

// sameLine holds two against each other without the program.
func sameLine(a impl.Stmt, b impl.Stmt) bool {
	return a.Kind == b.Kind && a.Name == b.Name && a.Type == b.Type && sameTree(a.Expr, b.Expr) && sameTree(a.Then, b.Then)
}

// checkStmt looks whether a line is ok, has this text and these names, with a space between, and is read from its text.
func checkStmt(t *testing.T, s impl.Stmt, text string, names string) {
	t.Helper()
	if !impl.StmtOk(s) {
		t.Errorf("%q is not ok: %v", text, s)
	}
	if got := impl.StmtText(s); got != text {
		t.Errorf("text %q, want %q", got, text)
	}
	if got, ok := impl.StmtRead(text); !ok || !sameLine(got, s) {
		t.Errorf("%q is read as %v %v, want %v", text, got, ok, s)
	}
	if got := impl.StmtNames(s); !slices.Equal(got, strings.Fields(names)) {
		t.Errorf("%q has the names %q, want %q", text, got, names)
	}
}

// checkNoStmt looks for the fixed answers to a line that is not ok.
func checkNoStmt(t *testing.T, s impl.Stmt) {
	t.Helper()
	if impl.StmtOk(s) {
		t.Errorf("ok: %.200v", s)
	}
	if text := impl.StmtText(s); text != "" {
		t.Errorf("text %q of %.200v", text, s)
	}
	if names := impl.StmtNames(s); len(names) != 0 {
		t.Errorf("names %q of %.200v", names, s)
	}
}

func checkStmtNotRead(t *testing.T, line string) {
	t.Helper()
	if s, ok := impl.StmtRead(line); ok || !sameLine(s, impl.Stmt{}) {
		t.Errorf("%.200q is read as %v %v", line, s, ok)
	}
}

// checkTooWide looks at a line that is not ok by its width alone, and at the text that it would have.
func checkTooWide(t *testing.T, s impl.Stmt, text string) {
	t.Helper()
	checkNoStmt(t, s)
	checkStmtNotRead(t, text)
}

func TestKindsOfStmts(t *testing.T) {
	if impl.StmtNone != noneKind || impl.StmtLet != letKind || impl.StmtSay != sayKind || impl.StmtWhen != whenKind {
		t.Error("kinds", impl.StmtNone, impl.StmtLet, impl.StmtSay, impl.StmtWhen)
	}
}

func TestStmtsByHand(t *testing.T) {
	x, y, z := name("x"), name("y"), name("z")
	one, twice := number(1), number(2)
	sum := two(x, "+", one)
	for _, c := range []struct {
		s     impl.Stmt
		text  string
		names string
	}{
		{let("x", "int", one), "let x : int = 1", ""},
		{let("x", "bool", one), "let x : bool = 1", ""},
		{let("x", "int", x), "let x : int = x", "x"},
		{let("x", "int", y), "let x : int = y", "y"},
		{let("x", "int", two(one, "+", y)), "let x : int = 1 + y", "y"},
		{let("b", "bool", two(x, "<", one)), "let b : bool = x < 1", "x"},
		{let("lets", "int", two(x, "-", two(y, "-", x))), "let lets : int = x - ( y - x )", "x y"},
		{let("x", "bool", as(sum, "bool")), "let x : bool = ( x + 1 ) as bool", "x"},
		{let("ints", "int", as(as(z, "bool"), "int")), "let ints : int = z as bool as int", "z"},
		{say(number(0)), "say 0", ""},
		{say(number(mostNumber)), "say 1000000", ""},
		{say(x), "say x", "x"},
		{say(name("says")), "say says", "says"},
		{say(two(x, "*", y)), "say x * y", "x y"},
		{say(two(y, "*", x)), "say y * x", "y x"},
		{say(two(as(sum, "int"), "*", twice)), "say ( x + 1 ) as int * 2", "x"},
		{say(as(x, "bool")), "say x as bool", "x"},
		{when(one, twice), "when 1 say 2", ""},
		{when(x, twice), "when x say 2", "x"},
		{when(one, y), "when 1 say y", "y"},
		{when(x, y), "when x say y", "x y"},
		{when(y, x), "when y say x", "y x"},
		{when(two(x, "<", number(3)), two(x, "*", twice)), "when x < 3 say x * 2", "x"},
		{when(two(x, "<", number(3)), two(as(sum, "int"), "*", twice)), "when x < 3 say ( x + 1 ) as int * 2", "x"},
		{when(as(two(x, "<", y), "bool"), as(two(z, "-", x), "int")), "when ( x < y ) as bool say ( z - x ) as int", "x y z"},
		{when(two(x, "<", y), two(y, "<", x)), "when x < y say y < x", "x y"},
		{when(name("whens"), name("s")), "when whens say s", "whens s"},
	} {
		checkStmt(t, c.s, c.text, c.names)
	}
}

// The line that is nothing has the empty text, and is what is read from it.
func TestLineThatIsNothing(t *testing.T) {
	checkStmt(t, impl.Stmt{}, "", "")
	checkStmt(t, impl.Stmt{Kind: noneKind, Expr: impl.Expr{Kids: []impl.Expr{}}, Then: impl.Expr{Kids: make([]impl.Expr, 0, 3)}}, "", "")
	for _, line := range []string{" ", "  ", "\n", "\t", "\x00", ";", "-", "none", "0", "\"\"", strings.Repeat(" ", widestLine), strings.Repeat(" ", 120), strings.Repeat(" ", 121)} {
		checkStmtNotRead(t, line)
	}
	for _, s := range []impl.Stmt{
		{Name: "x"}, {Name: " "}, {Type: "int"}, {Type: " "}, {Name: "x", Type: "int"}, {Name: "x", Type: "int", Expr: number(1)},
		{Expr: number(1)}, {Expr: name("x")}, {Expr: impl.Expr{N: 1}}, {Expr: impl.Expr{S: "x"}}, {Expr: impl.Expr{Kind: 5}}, {Expr: impl.Expr{Kids: make([]impl.Expr, 1)}},
		{Then: number(1)}, {Then: name("x")}, {Then: impl.Expr{N: 1}}, {Then: impl.Expr{S: "x"}}, {Then: impl.Expr{Kind: 5}}, {Then: impl.Expr{Kids: make([]impl.Expr, 1)}},
		{Expr: number(1), Then: number(2)},
	} {
		checkNoStmt(t, s)
	}
}

func TestKindsThatAreNone(t *testing.T) {
	x := name("x")
	for _, kind := range []int{-1, -2, -3, 4, 5, 6, 100, 256, 257, 258, 259, 1 << 32, 1<<32 + letKind, 1<<32 + sayKind, 1<<32 + whenKind, math.MinInt, math.MaxInt} {
		for _, s := range []impl.Stmt{{}, let("x", "int", x), say(x), when(x, x), {Name: "x"}, {Name: "x", Type: "int", Expr: x, Then: x}} {
			s.Kind = kind
			checkNoStmt(t, s)
		}
	}
}

// A line that has what its Kind has not, or lacks what it has.
func TestWhatAKindHas(t *testing.T) {
	x := name("x")
	good := map[string]impl.Stmt{"let": let("x", "int", x), "say": say(x), "when": when(x, x)}
	has := map[string]string{"let": "Name Type Expr", "say": "Expr", "when": "Expr Then"}
	for kind, s := range good {
		if !impl.StmtOk(s) {
			t.Error("not ok:", s)
		}
		for field, more := range map[string][]func(*impl.Stmt){
			"Name": {func(s *impl.Stmt) { s.Name = "x" }, func(s *impl.Stmt) { s.Name = " " }, func(s *impl.Stmt) { s.Name = "let" }},
			"Type": {func(s *impl.Stmt) { s.Type = "int" }, func(s *impl.Stmt) { s.Type = "bool" }, func(s *impl.Stmt) { s.Type = " " }},
			"Then": {
				func(s *impl.Stmt) { s.Then = x }, func(s *impl.Stmt) { s.Then = number(0) }, func(s *impl.Stmt) { s.Then.N = 1 },
				func(s *impl.Stmt) { s.Then.S = "x" }, func(s *impl.Stmt) { s.Then.Kind = -1 }, func(s *impl.Stmt) { s.Then.Kids = make([]impl.Expr, 1) },
			},
		} {
			if slices.Contains(strings.Fields(has[kind]), field) {
				continue
			}
			for _, change := range more {
				other := s
				change(&other)
				checkNoStmt(t, other)
			}
		}
		for field, lack := range map[string]func(*impl.Stmt){
			"Name": func(s *impl.Stmt) { s.Name = "" }, "Type": func(s *impl.Stmt) { s.Type = "" },
			"Expr": func(s *impl.Stmt) { s.Expr = impl.Expr{} }, "Then": func(s *impl.Stmt) { s.Then = impl.Expr{} },
		} {
			if slices.Contains(strings.Fields(has[kind]), field) {
				other := s
				lack(&other)
				checkNoStmt(t, other)
			}
		}
	}
	// What one Kind has as Expr is no Then of it, nor is it the other way around.
	checkNoStmt(t, impl.Stmt{Kind: sayKind, Then: x})
	checkNoStmt(t, impl.Stmt{Kind: letKind, Name: "x", Type: "int", Then: x})
	checkNoStmt(t, impl.Stmt{Kind: letKind, Name: "int", Type: "x", Expr: x})
	checkNoStmt(t, impl.Stmt{Kind: letKind})
	checkNoStmt(t, impl.Stmt{Kind: sayKind})
	checkNoStmt(t, impl.Stmt{Kind: whenKind})
}

func TestStmtsOfBadParts(t *testing.T) {
	x := name("x")
	for why, bad := range badParts() {
		t.Run(why, func(t *testing.T) {
			for _, e := range []impl.Expr{bad, as(bad, "int"), two(x, "+", bad)} {
				for _, s := range []impl.Stmt{let("x", "int", e), say(e), when(e, x), when(x, e), when(e, e)} {
					checkNoStmt(t, s)
				}
			}
		})
	}
	// Parts of the greatest size and depth, and of one more.
	deep := within("second", name("y"), mostAround)
	seven := balanced(3, "+")
	full := two(seven, "+", as(two(x, "*", x), "int"))
	for _, e := range []impl.Expr{deep, full} {
		text := wordsByTable(e, 0)
		checkStmt(t, let("z", "int", e), "let z : int = "+text, strings.Join(namesByRule(e), " "))
		checkStmt(t, say(e), "say "+text, strings.Join(namesByRule(e), " "))
		checkStmt(t, when(e, e), "when "+text+" say "+text, strings.Join(namesByRule(e), " "))
	}
	for _, e := range []impl.Expr{within("second", name("y"), mostAround+1), two(seven, "+", two(as(x, "int"), "*", as(x, "int")))} {
		text := wordsByTable(e, 0)
		for _, s := range []impl.Stmt{let("z", "int", e), say(e), when(e, x), when(x, e)} {
			checkNoStmt(t, s)
		}
		for _, line := range []string{"let z : int = " + text, "say " + text, "when " + text + " say x", "when x say " + text} {
			checkStmtNotRead(t, line)
		}
	}
}

// namesThatAreNone are texts that are no names, some of them words that say something else.
func namesThatAreNone() []string {
	all := []string{"let", "say", "when", "as", "print", "if", "int", "bool", "abcdefghi", strings.Repeat("x", 5000), "1", "X", "Let", "xY", "x1", "x ", " x", "a b", "x :", "+", "(", ":", "=", "_", "\u00e9", "\xff", "\x00", "x\n"}
	for _, bad := range badWords() {
		all = append(all, bad)
	}
	return all
}

func TestNamesOfLets(t *testing.T) {
	for _, s := range []string{"a", "z", "x", "abcdefgh", "zzzzzzzz", "le", "lets", "says", "whens", "ass", "prints", "iff", "ints", "bools", "then", "else"} {
		checkStmt(t, let(s, "int", number(1)), "let "+s+" : int = 1", "")
		checkStmt(t, let(s, "bool", name(s)), "let "+s+" : bool = "+s, s)
		checkStmt(t, say(name(s)), "say "+s, s)
		checkStmt(t, when(name(s), name(s)), "when "+s+" say "+s, s)
	}
	for _, s := range append(namesThatAreNone(), "") {
		checkNoStmt(t, let(s, "int", number(1)))
		checkNoStmt(t, let(s, "bool", name("x")))
		checkStmtNotRead(t, "let "+s+" : int = 1")
		checkStmtNotRead(t, "let "+s+" : bool = x")
		// Nor does it stand for a name in what is reckoned.
		for _, line := range []impl.Stmt{let("x", "int", name(s)), say(name(s)), when(name(s), number(1)), when(number(1), name(s))} {
			checkNoStmt(t, line)
		}
	}
}

func TestTypesOfLets(t *testing.T) {
	checkStmt(t, let("x", "int", number(1)), "let x : int = 1", "")
	checkStmt(t, let("x", "bool", number(1)), "let x : bool = 1", "")
	// Whether the type is that of what is reckoned is no matter of the line.
	checkStmt(t, let("x", "int", two(number(1), "<", number(2))), "let x : int = 1 < 2", "")
	checkStmt(t, let("x", "bool", as(number(1), "int")), "let x : bool = 1 as int", "")
	for _, s := range append(namesThatAreNone(), "", "text", "x", "ints", "boo", "in", "Int", "INT", "int ", " bool", "int bool", "bool int", "intbool", "number") {
		if s == "int" || s == "bool" {
			continue
		}
		checkNoStmt(t, let("x", s, number(1)))
		checkStmtNotRead(t, "let x : "+s+" = 1")
	}
}

func TestStmtNames(t *testing.T) {
	for _, c := range []struct{ text, names string }{
		{"", ""}, {"say 1", ""}, {"let x : int = 1", ""}, {"when 1 < 2 say 3 * 4", ""}, {"when 1 as bool say 2 as int", ""}, {"say ( 1 + 2 ) as int", ""},
		{"say x + x", "x"}, {"say x + y + x", "x y"}, {"say y + x + y", "y x"}, {"say z - ( y - x )", "z y x"}, {"say ( c + b ) * a", "c b a"}, {"let x : int = x * x", "x"},
		{"let x : int = y + x", "y x"}, {"let x : bool = y as int < y", "y"}, {"when x < x say 1", "x"}, {"when 1 say x * x", "x"}, {"when x say x", "x"},
		{"when x < y say y + x", "x y"}, {"when y < x say x + y", "y x"}, {"when x say y + x + y", "x y"}, {"when x < y say y + z", "x y z"}, {"when z < z say a + z + a", "z a"},
		{"when c say b", "c b"}, {"when b < c say a + b + c + d", "b c a d"}, {"say x as int + y as bool", "x y"}, {"say abcdefgh + abcdefg + abcdefgh", "abcdefgh abcdefg"},
		{"say x + xx + xxx + xx + x", "x xx xxx"}, {"when ass say ints + lets", "ass ints lets"}, {"when a * ( b + a ) say ( c - b ) * d", "a b c d"},
	} {
		s, ok := impl.StmtRead(c.text)
		if got := impl.StmtNames(s); !ok || !slices.Equal(got, strings.Fields(c.names)) {
			t.Errorf("%q %v has the names %q, want %q", c.text, ok, got, c.names)
		}
	}
}

func TestTextsThatAreNoLines(t *testing.T) {
	for _, line := range []string{
		// Spaces too many, ahead of, between and behind the words, and too few.
		" say 1", "say 1 ", "say  1", "say 1  + 2", "say 1 +  2", "  say x", "say x  ", " let x : int = 1", "let  x : int = 1", "let x  : int = 1", "let x :  int = 1", "let x : int  = 1", "let x : int =  1", "let x : int = 1 ",
		" when x say 1", "when  x say 1", "when x  say 1", "when x say  1", "when x say 1 ", "say1", "sayx", "say 1+2", "say 1 +2", "say 1+ 2", "say x+y", "letx : int = 1", "let x: int = 1", "let x :int = 1", "let x : int= 1", "let x : int =1", "let x:int=1",
		"whenx say 1", "when xsay 1", "when x say1", "when 1say 2", "when 1 say2", "when x<3 say 1", "say(x + 1) as int", "say (x + 1) as int", "say ( x + 1 )as int", "say 1as int", "say x asint",
		// Brackets that are not needed, or do not close.
		"say ( 1 )", "say ( x )", "say ( x + 1 )", "say ( x * 2 ) + 1", "say ( x as int )", "say ( ( x + 1 ) ) as int", "let x : int = ( 1 )", "let x : int = ( 1 + 2 )", "when ( x ) say 1", "when ( x < 3 ) say 1", "when x < 3 say ( 1 )", "when x < 3 say ( x + 1 )", "( say 1 )", "( let x : int = 1 )", "let ( x ) : int = 1", "let x : ( int ) = 1", "when ( x say 1 )", "when x ( say 1 )",
		"say ( x + 1", "say x + 1 )", "say ( x + 1 as int", "say x + 1 ) as int", "let x : int = ( x + 1", "when ( x + 1 say 2", "when ( x + 1 say 2 ) as int", "when x say ( 2 + 1", "say )", "say (", "say ( )",
		// Words in another order.
		"1 say", "x say", "x let : int = 1", "let : x int = 1", "let x int : = 1", "let x : = int 1", "let x : int 1 =", "let int : x = 1", "let x = int : 1", "let x = 1 : int", "let x = int = 1", "let x : int : 1", "int x = 1", "x : int = 1", "x = 1", "let 1 : int = x", "say 1 when x", "say when x 1", "x when say 1", "when say x 1", "when x 1 say", "say x when 1", "when say 1", "when say 1 x", "= let x : int 1",
		"say + 1 2", "say 1 2 +", "say as x int", "say int as x", "say x int as",
		// A word too few, or too many.
		"say", "let", "when", "let x", "let x :", "let x : int", "let x : int =", "let x : int 1", "let x = 1", "let x int = 1", "let : int = 1", "let x : = 1", "x : int = 1", "let x 1", "let = 1", "let x : 1",
		"when x", "when x say", "when say", "when 1 2", "when x 1", "when x < 3", "when x < 3 x", "when x < 3 : say 1", "say 1 2", "say x y", "say say 1", "say 1 say 2", "say 1 say", "say let x : int = 1", "let let x : int = 1", "let x x : int = 1", "let x : : int = 1", "let x : int int = 1", "let x : int = = 1", "let x : int = 1 2", "let x : int = 1 =", "let x : int = y = 1", "let x : int = let y : int = 1", "let x : int = say 1", "let x : int = 1 say x", "when when x say 1", "when x say say 1", "when x say 1 say 2", "when x when y say 1", "when x say 1 when y", "when x say when y say 1", "when x say 1 2", "when x say let x : int = 1", "when x let y : int = 1", "say 1 :", "say 1 =", "say = 1", "say : 1", "say x : int", "let x : int = 1 : int", "let x : int = 1 as", "let x : int = 1 int",
		// Other words in the place of those that say what is done.
		"print 1", "print x", "if x : print 1", "if x say 1", "x = 1", "when x print 1", "when x : print 1", "when x then 1", "as 1", "int 1", "bool x", "lets x : int = 1", "le x : int = 1", "says 1", "sa 1", "whe x say 1", "Say 1", "SAY 1", "Let x : int = 1", "When x say 1", "when x Say 1", "tell 1", "1", "x", "x + 1", "when x < 3", "let x ; int = 1", "let x : int == 1", "let x := 1", "let x : int := 1", "let x : int + 1", "let x + int = 1", "let x < int = 1", "let x ( int ) 1",
		// Texts that end within a part.
		"say 1 +", "say x *", "say x <", "say x as", "say ( x", "say ( x +", "say ( x + 1 )", "say ( x + 1 ) as", "let x : int = 1 +", "let x : int = x as", "when x < say 1", "when x as say 1", "when x + say 1", "when ( x + 1 ) as say 1", "when x say 1 +", "when x say x as", "when x < 3 say x *", "say -", "say +", "say *", "say as", "say as int", "say int", "when as bool say 1", "when + say 1", "when x say + 1", "say - 1", "say -1", "say +1",
		// Line breaks, and other bytes that are no spaces.
		"say 1\n", "\nsay 1", "say\n1", "say 1\nsay 2", "say 1\n\n", "\n", "say 1\r", "say 1\r\n", "say\t1", "say 1\t", "\tsay 1", "say\v1", "let x : int\n= 1", "let x : int = 1\n", "let\nx : int = 1", "when x\nsay 1", "when x say 1\n", "say 1\x00", "say\x001", "\x00say 1", "say \u00a01", "say\u00a01", "\ufeffsay 1", "say 1;", "say 1 # x", "say 1 // x", "\"say 1\"", "say \u00e9", "say \xff", "say 1\xff", "s\u0430y 1", "say \uff11",
		// Numbers and names that are none.
		"say 01", "say 00", "say 1000001", "say 10000000", "say 99999999999999999999", "say 1.0", "say 1e3", "say 0x1", "say X", "say abcdefghi", "say x1", "say 1x", "say x_y", "say > 1", "say 1 > 2", "say 1 / 2", "say 1 <= 2", "say 1 == 2", "say 1 < 2 < 3",
	} {
		checkStmtNotRead(t, line)
	}
}

// A text far wider than a line is not gone through for ever, and is not read.
func TestLongTextsAreNoLines(t *testing.T) {
	for _, size := range []int{117, 120, 121, 200, 5000, 3000000} {
		for _, one := range []string{" ", "x", "1", "(", "\n", "say ", "say 1 ", "\xff", "say 1\n"} {
			checkStmtNotRead(t, strings.Repeat(one, size))
			checkStmtNotRead(t, "say "+strings.Repeat(one, size))
			checkStmtNotRead(t, "say 1"+strings.Repeat(one, size))
			if one != "1" {
				checkStmtNotRead(t, strings.Repeat(one, size)+"say 1")
			}
		}
	}
}
