package tests

import (
	"math"
	"slices"
	"strconv"
	"strings"
	"testing"

	"loop.example/interlinear/impl"
)

// set, prints and printsIf make lines without types of each kind that has words, also ones that are not ok.
func set(name string, e impl.Expr) impl.Bare {
	return impl.Bare{Kind: letKind, Name: name, Expr: e}
}

func prints(e impl.Expr) impl.Bare {
	return impl.Bare{Kind: sayKind, Expr: e}
}

func printsIf(e impl.Expr, then impl.Expr) impl.Bare {
	return impl.Bare{Kind: whenKind, Expr: e, Then: then}
}

// sameBare holds two against each other without the program.
func sameBare(a impl.Bare, b impl.Bare) bool {
	return a.Kind == b.Kind && a.Name == b.Name && sameTree(a.Expr, b.Expr) && sameTree(a.Then, b.Then)
}

// checkBare looks whether a line without types is ok, has this text, and is read from it.
func checkBare(t *testing.T, b impl.Bare, text string) {
	t.Helper()
	if !impl.BareOk(b) {
		t.Errorf("%q is not ok: %v", text, b)
	}
	if got := impl.BareText(b); got != text {
		t.Errorf("text %q, want %q", got, text)
	}
	if got, ok := impl.BareRead(text); !ok || !sameBare(got, b) {
		t.Errorf("%q is read as %v %v, want %v", text, got, ok, b)
	}
}

// checkNoBare looks for the fixed answers to a line without types that is not ok.
func checkNoBare(t *testing.T, b impl.Bare) {
	t.Helper()
	if impl.BareOk(b) {
		t.Errorf("ok: %.200v", b)
	}
	if text := impl.BareText(b); text != "" {
		t.Errorf("text %q of %.200v", text, b)
	}
	checkNotRun(t, []impl.Bare{b})
}

func checkNotRun(t *testing.T, list []impl.Bare) {
	t.Helper()
	if printed, ok := impl.BareRun(list); ok || len(printed) != 0 {
		t.Errorf("%.200v prints %v %v", list, printed, ok)
	}
}

func checkBareNotRead(t *testing.T, line string) {
	t.Helper()
	if b, ok := impl.BareRead(line); ok || !sameBare(b, impl.Bare{}) {
		t.Errorf("%.200q is read as %v %v", line, b, ok)
	}
	// A newline makes of it several lines, which may be read.
	if !strings.Contains(line, "\n") {
		checkNotPrinted(t, line)
	}
}

func checkNotPrinted(t *testing.T, text string) {
	t.Helper()
	if printed, ok := impl.BareAll(text); ok || len(printed) != 0 {
		t.Errorf("%.200q prints %v %v", text, printed, ok)
	}
}

// checkTurned looks whether a line is turned into this one, which is ok and has this text.
func checkTurned(t *testing.T, s impl.Stmt, b impl.Bare, text string) {
	t.Helper()
	if got := impl.BareOf(s); !sameBare(got, b) {
		t.Errorf("%v is turned into %v, want %v", s, got, b)
	}
	checkBare(t, b, text)
}

func checkNotTurned(t *testing.T, s impl.Stmt) {
	t.Helper()
	if b := impl.BareOf(s); !sameBare(b, impl.Bare{}) {
		t.Errorf("%.200v is turned into %v", s, b)
	}
}

// baresOf makes lines without types of their texts.
func baresOf(t *testing.T, texts ...string) []impl.Bare {
	t.Helper()
	var list []impl.Bare
	for _, text := range texts {
		b, ok := impl.BareRead(text)
		if !ok {
			t.Fatalf("%q is no line without types", text)
		}
		list = append(list, b)
	}
	return list
}

// checkPrints looks what lines without types print, as a list and as a text.
func checkPrints(t *testing.T, list []impl.Bare, text string, printed []int, all bool) {
	t.Helper()
	if got, ok := impl.BareRun(list); ok != all || !slices.Equal(got, printed) {
		t.Errorf("the lines of %q print %v %v, want %v %v", text, got, ok, printed, all)
	}
	if got, ok := impl.BareAll(text); ok != all || !slices.Equal(got, printed) {
		t.Errorf("%q prints %v %v, want %v %v", text, got, ok, printed, all)
	}
}

// A turning is a program, what it is turned into, and what both of them say.
type turning struct {
	text  string
	bare  string
	said  []int
	whole bool
}

func checkTurnings(t *testing.T, list []turning) {
	t.Helper()
	for _, c := range list {
		p := progOf(t, strings.Split(c.text, "\n")...)
		texts := strings.Split(c.bare, "\n")
		if len(p) != len(texts) {
			t.Fatalf("%q and %q have not as many lines", c.text, c.bare)
		}
		var turned []impl.Bare
		for i, s := range p {
			turned = append(turned, impl.BareOf(s))
			checkBare(t, turned[i], texts[i])
		}
		if said, ok := impl.ProgRun(p); ok != c.whole || !slices.Equal(said, c.said) {
			t.Errorf("%q says %v %v, want %v %v", c.text, said, ok, c.said, c.whole)
		}
		checkPrints(t, turned, c.bare, c.said, c.whole)
	}
}

func TestBaresByHand(t *testing.T) {
	x, y, z := name("x"), name("y"), name("z")
	one, twice, three := number(1), number(2), number(3)
	for _, c := range []struct {
		b    impl.Bare
		text string
	}{
		{set("x", one), "x = 1"},
		{set("x", x), "x = x"},
		{set("longname", number(mostNumber)), "longname = 1000000"},
		{set("x", two(one, "+", y)), "x = 1 + y"},
		{set("b", two(x, "<", one)), "b = x < 1"},
		{set("x", two(y, "-", two(z, "-", one))), "x = y - ( z - 1 )"},
		{prints(number(0)), "print 0"},
		{prints(x), "print x"},
		{prints(two(x, "*", two(y, "+", one))), "print x * ( y + 1 )"},
		{prints(two(two(x, "+", one), "*", twice)), "print ( x + 1 ) * 2"},
		{prints(two(two(x, "*", one), "+", twice)), "print x * 1 + 2"},
		{prints(two(x, "<", y)), "print x < y"},
		{printsIf(one, twice), "if 1 : print 2"},
		{printsIf(x, y), "if x : print y"},
		{printsIf(y, x), "if y : print x"},
		{printsIf(two(x, "<", three), two(x, "*", twice)), "if x < 3 : print x * 2"},
		{printsIf(two(x, "<", y), two(y, "<", x)), "if x < y : print y < x"},
		{printsIf(two(two(x, "<", y), "+", z), two(z, "*", two(x, "-", y))), "if ( x < y ) + z : print z * ( x - y )"},
	} {
		checkBare(t, c.b, c.text)
	}
}

func TestTurnedByHand(t *testing.T) {
	x, y := name("x"), name("y")
	one, twice, three := number(1), number(2), number(3)
	sum := two(x, "+", one)
	for _, c := range []struct {
		s    impl.Stmt
		b    impl.Bare
		text string
	}{
		{impl.Stmt{}, impl.Bare{}, ""},
		{let("x", "int", one), set("x", one), "x = 1"},
		{let("x", "bool", one), set("x", one), "x = 1"},
		{let("x", "bool", as(x, "bool")), set("x", x), "x = x"},
		{let("b", "int", two(as(two(one, "+", twice), "int"), "*", three)), set("b", two(two(one, "+", twice), "*", three)), "b = ( 1 + 2 ) * 3"},
		{say(x), prints(x), "print x"},
		{say(as(x, "bool")), prints(x), "print x"},
		{say(as(as(as(x, "int"), "bool"), "int")), prints(x), "print x"},
		{say(as(sum, "int")), prints(sum), "print x + 1"},
		{when(x, y), printsIf(x, y), "if x : print y"},
		{when(as(x, "bool"), y), printsIf(x, y), "if x : print y"},
		{when(x, as(y, "int")), printsIf(x, y), "if x : print y"},
		{when(two(x, "<", three), two(as(x, "int"), "+", one)), printsIf(two(x, "<", three), sum), "if x < 3 : print x + 1"},
		{when(two(x, "<", three), two(as(sum, "int"), "*", twice)), printsIf(two(x, "<", three), two(sum, "*", twice)), "if x < 3 : print ( x + 1 ) * 2"},
		{when(as(two(x, "<", y), "bool"), as(two(x, "<", y), "int")), printsIf(two(x, "<", y), two(x, "<", y)), "if x < y : print x < y"},
	} {
		checkTurned(t, c.s, c.b, c.text)
	}
}

// A type needs brackets around each two parts; without it some of them are needed, and the others go.
func TestBracketsThatATypeHadNeeded(t *testing.T) {
	a, b, c := name("a"), name("b"), name("c")
	for _, row := range bracketRows {
		first := two(as(two(a, row.inner, b), "int"), row.outer, c)
		second := two(a, row.outer, as(two(b, row.inner, c), "bool"))
		bareFirst, bareSecond := two(two(a, row.inner, b), row.outer, c), two(a, row.outer, two(b, row.inner, c))
		for _, whole := range []func(impl.Expr) impl.Expr{func(e impl.Expr) impl.Expr { return e }, func(e impl.Expr) impl.Expr { return as(e, "bool") }} {
			checkTurned(t, let("x", "int", whole(first)), set("x", bareFirst), "x = "+row.first)
			checkTurned(t, let("x", "bool", whole(second)), set("x", bareSecond), "x = "+row.second)
			checkTurned(t, say(whole(first)), prints(bareFirst), "print "+row.first)
			checkTurned(t, say(whole(second)), prints(bareSecond), "print "+row.second)
			checkTurned(t, when(whole(first), whole(second)), printsIf(bareFirst, bareSecond), "if "+row.first+" : print "+row.second)
			checkTurned(t, when(whole(second), whole(first)), printsIf(bareSecond, bareFirst), "if "+row.second+" : print "+row.first)
		}
	}
	for _, mark := range []string{"<", "+", "-", "*"} {
		e := two(a, mark, b)
		checkTurned(t, say(as(e, "int")), prints(e), "print a "+mark+" b")
		checkTurned(t, say(as(as(e, "int"), "bool")), prints(e), "print a "+mark+" b")
		checkBareNotRead(t, "print ( a "+mark+" b )")
		checkBareNotRead(t, "x = ( a "+mark+" b )")
		checkBareNotRead(t, "if ( a "+mark+" b ) : print 1")
		checkBareNotRead(t, "if 1 : print ( a "+mark+" b )")
	}
}

// The line that is nothing has the empty text, and is what is read from it.
func TestBareThatIsNothing(t *testing.T) {
	checkBare(t, impl.Bare{}, "")
	checkBare(t, impl.Bare{Kind: noneKind, Expr: impl.Expr{Kids: []impl.Expr{}}, Then: impl.Expr{Kids: make([]impl.Expr, 0, 3)}}, "")
	checkPrints(t, []impl.Bare{{}}, "", nil, true)
	for _, line := range []string{" ", "  ", "\n", "\t", "\x00", ";", "-", "none", "0", "\"\"", strings.Repeat(" ", wideBytes), strings.Repeat(" ", wideBytes+1)} {
		checkBareNotRead(t, line)
	}
	for _, b := range []impl.Bare{
		{Name: "x"}, {Name: " "}, {Name: "x", Expr: number(1)}, {Expr: number(1), Then: number(2)},
		{Expr: number(1)}, {Expr: name("x")}, {Expr: impl.Expr{N: 1}}, {Expr: impl.Expr{S: "x"}}, {Expr: impl.Expr{Kind: 5}}, {Expr: impl.Expr{Kids: make([]impl.Expr, 1)}},
		{Then: number(1)}, {Then: name("x")}, {Then: impl.Expr{N: 1}}, {Then: impl.Expr{S: "x"}}, {Then: impl.Expr{Kind: 5}}, {Then: impl.Expr{Kids: make([]impl.Expr, 1)}},
	} {
		checkNoBare(t, b)
	}
}

func TestKindsOfBaresThatAreNone(t *testing.T) {
	x := name("x")
	for _, kind := range []int{-1, -2, -3, 4, 5, 6, 100, 256, 257, 258, 259, 1 << 32, 1<<32 + letKind, 1<<32 + sayKind, 1<<32 + whenKind, math.MinInt, math.MaxInt} {
		for _, b := range []impl.Bare{{}, set("x", x), prints(x), printsIf(x, x), {Name: "x"}, {Name: "x", Expr: x, Then: x}} {
			b.Kind = kind
			checkNoBare(t, b)
		}
	}
}

// A line that has what its Kind has not, or lacks what it has.
func TestWhatAKindOfBareHas(t *testing.T) {
	x, one := name("x"), number(1)
	for _, b := range []impl.Bare{set("x", one), prints(one), printsIf(one, one)} {
		if !impl.BareOk(b) {
			t.Error("not ok:", b)
		}
	}
	for _, e := range []impl.Expr{x, one, {N: 1}, {S: "x"}, {Kind: -1}, {Kids: make([]impl.Expr, 1)}, as(x, "int")} {
		checkNoBare(t, impl.Bare{Kind: letKind, Name: "x", Expr: one, Then: e})
		checkNoBare(t, impl.Bare{Kind: sayKind, Expr: one, Then: e})
		checkNoBare(t, impl.Bare{Kind: sayKind, Then: e})
		checkNoBare(t, impl.Bare{Kind: letKind, Name: "x", Then: e})
		checkNoBare(t, impl.Bare{Kind: whenKind, Then: e})
		checkNoBare(t, impl.Bare{Kind: whenKind, Expr: e})
	}
	for _, name := range []string{"x", " ", "print", "let", "if"} {
		checkNoBare(t, impl.Bare{Kind: sayKind, Name: name, Expr: one})
		checkNoBare(t, impl.Bare{Kind: whenKind, Name: name, Expr: one, Then: one})
		checkNoBare(t, impl.Bare{Kind: sayKind, Name: name})
		checkNoBare(t, impl.Bare{Kind: letKind, Name: name})
	}
	checkNoBare(t, impl.Bare{Kind: letKind, Expr: one})
	checkNoBare(t, impl.Bare{Kind: letKind})
	checkNoBare(t, impl.Bare{Kind: sayKind})
	checkNoBare(t, impl.Bare{Kind: whenKind})
}

func TestBaresOfBadParts(t *testing.T) {
	x := name("x")
	for why, bad := range badParts() {
		t.Run(why, func(t *testing.T) {
			for _, e := range []impl.Expr{bad, two(x, "+", bad), two(bad, "*", x)} {
				for _, b := range []impl.Bare{set("x", e), prints(e), printsIf(e, x), printsIf(x, e), printsIf(e, e)} {
					checkNoBare(t, b)
				}
				for _, s := range []impl.Stmt{let("x", "int", e), say(e), when(e, x), when(x, e), when(e, as(e, "int")), {Expr: e}, {Then: e}} {
					if !impl.StmtOk(s) {
						checkNotTurned(t, s)
					}
				}
			}
		})
	}
	// Parts of the greatest size and depth that there is without types, and of more.
	deep, full := within("second", name("y"), mostAround), two(balanced(3, "+"), "+", two(x, "*", x))
	for _, e := range []impl.Expr{deep, full} {
		text := wordsByTable(e, 0)
		checkBare(t, set("z", e), "z = "+text)
		checkBare(t, prints(e), "print "+text)
		checkBare(t, printsIf(e, e), "if "+text+" : print "+text)
	}
	for _, e := range []impl.Expr{within("second", name("y"), mostAround+1), within("first", name("y"), mostAround+1), two(full, "+", x), balanced(4, "+")} {
		text := wordsByTable(e, 0)
		for _, b := range []impl.Bare{set("z", e), prints(e), printsIf(e, x), printsIf(x, e)} {
			checkNoBare(t, b)
		}
		for _, line := range []string{"z = " + text, "print " + text, "if " + text + " : print x", "if x : print " + text} {
			checkBareNotRead(t, line)
		}
	}
}

// No line without types has an ExprAs, at whatever depth, nor the word of one.
func TestTypesWithinBares(t *testing.T) {
	x := name("x")
	for around := range mostAround {
		for _, way := range []string{"first", "second"} {
			for _, typeName := range []string{"int", "bool"} {
				for _, kid := range []impl.Expr{x, number(1), as(x, "int")} {
					e := within(way, as(kid, typeName), around)
					if !impl.ExprOk(e) {
						continue
					}
					text := wordsByTable(e, 0)
					for _, b := range []impl.Bare{set("x", e), prints(e), printsIf(e, x), printsIf(x, e), printsIf(e, e), printsIf(bareByRule(e), e), printsIf(e, bareByRule(e))} {
						checkNoBare(t, b)
					}
					for _, line := range []string{"x = " + text, "print " + text, "if " + text + " : print x", "if x : print " + text, "if " + text + " : print " + text} {
						checkBareNotRead(t, line)
					}
					bare := bareByRule(e)
					checkTurned(t, let("x", typeName, e), set("x", bare), "x = "+wordsByTable(bare, 0))
					checkTurned(t, say(e), prints(bare), "print "+wordsByTable(bare, 0))
					checkTurned(t, when(e, x), printsIf(bare, x), "if "+wordsByTable(bare, 0)+" : print x")
					checkTurned(t, when(x, e), printsIf(x, bare), "if x : print "+wordsByTable(bare, 0))
				}
			}
		}
	}
	for _, line := range []string{"print as", "print x as", "print as int", "print x int", "print int", "x = as", "x = 1 as bool", "x as int = 1", "if x as : print 1", "if 1 : print x as", "x : int = 1", "int x = 1"} {
		checkBareNotRead(t, line)
	}
}

// A word of either side is no name on the other one; words that only begin like one are.
func TestNamesOfSets(t *testing.T) {
	for _, s := range []string{"a", "z", "x", "abcdefgh", "zzzzzzzz", "le", "lets", "says", "whens", "ass", "prints", "prin", "iff", "i", "ints", "bools", "then", "else", "set"} {
		checkTurned(t, let(s, "int", number(1)), set(s, number(1)), s+" = 1")
		checkTurned(t, let(s, "bool", name(s)), set(s, name(s)), s+" = "+s)
		checkTurned(t, say(name(s)), prints(name(s)), "print "+s)
		checkTurned(t, when(name(s), name(s)), printsIf(name(s), name(s)), "if "+s+" : print "+s)
	}
	for _, s := range append(namesThatAreNone(), "") {
		checkNoBare(t, set(s, number(1)))
		checkNoBare(t, set(s, name("x")))
		checkNotTurned(t, let(s, "int", number(1)))
		checkBareNotRead(t, s+" = 1")
		checkBareNotRead(t, s+" = x")
		// Nor does it stand for a name in what is reckoned.
		for _, b := range []impl.Bare{set("x", name(s)), prints(name(s)), printsIf(name(s), number(1)), printsIf(number(1), name(s))} {
			checkNoBare(t, b)
		}
		for _, line := range []impl.Stmt{let("x", "int", name(s)), say(name(s)), when(name(s), number(1)), when(number(1), name(s))} {
			checkNotTurned(t, line)
		}
		if s != "1" {
			for _, line := range []string{"x = " + s, "print " + s, "if " + s + " : print 1", "if 1 : print " + s} {
				checkBareNotRead(t, line)
			}
		}
	}
}

func TestLinesOfTheOtherSide(t *testing.T) {
	for _, line := range []string{
		"say 1", "say x", "say x + 1", "let x : int = 1", "let b : bool = x < 1", "when x say 1", "when x < 3 say x * 2", "say x as int", "when x as bool say y as int", "let x : int = 1 as int",
		// Half of the one side, and half of the other.
		"let x = 1", "x : int = 1", "let x : = 1", "let = 1", "when x : print 1", "if x say 1", "if x : say 1", "when x print 1", "if x print 1", "when x say print 1", "say print 1", "print say 1", "if x : print say 1", "if x say print 1", "x = say 1", "x = let 1", "let print 1", "print let 1", "if when x : print 1",
	} {
		checkBareNotRead(t, line)
	}
	for _, line := range []string{"print 1", "x = 1", "if x : print 1", "if x < 3 : print x * 2", "x = x + 1"} {
		checkStmtNotRead(t, line)
	}
}

func TestTextsThatAreNoBares(t *testing.T) {
	for _, line := range []string{
		// Spaces too many, ahead of, between and behind the words, and too few.
		" print 1", "print 1 ", "print  1", "print 1  + 2", "print 1 +  2", "  print x", "print x  ", " x = 1", "x  = 1", "x =  1", "x = 1 ", " if x : print 1", "if  x : print 1", "if x  : print 1", "if x :  print 1", "if x : print  1", "if x : print 1 ",
		"print1", "printx", "print 1+2", "print 1 +2", "print 1+ 2", "x= 1", "x =1", "x=1", "ifx : print 1", "if x: print 1", "if x :print 1", "if x:print 1", "if x : print1", "if x<3 : print 1", "print(x + 1) * 2", "print ( x + 1 )* 2", "print (x + 1) * 2", "print ( x + 1) * 2", "print (x + 1 ) * 2",
		// Brackets that are not needed, or do not close.
		"print ( 1 )", "print ( x )", "print ( x + 1 )", "print ( x * 2 ) + 1", "print ( ( x + 1 ) ) * 2", "print ( ( x + 1 ) * 2 )", "x = ( 1 )", "x = ( 1 + 2 )", "( x ) = 1", "if ( x ) : print 1", "if ( x < 3 ) : print 1", "if x < 3 : print ( 1 )", "if x < 3 : print ( x + 1 )", "( print 1 )", "( x = 1 )", "( if x : print 1 )", "if ( x : print 1 )", "if x ( : print 1 )", "if x : ( print 1 )", "if ( x + 1 : print 2 ) * 2",
		"print ( x + 1", "print x + 1 )", "print ( x + 1 * 2", "print x + 1 ) * 2", "x = ( x + 1", "if ( x + 1 : print 2", "if x : print ( 2 + 1", "if x + 1 ) * 2 : print 1", "print )", "print (", "print ( )", "x = (", "if ( : print 1",
		// A mark in the place of another one.
		"x : 1", "x + 1", "x < 1", "x - 1", "x * 1", "x ( 1", "x ) 1", "x == 1", "x := 1", "x = = 1", "x : = 1", "x = : 1", "if x = print 1", "if x + print 1", "if x < print 1", "if x ( print 1", "if x ) print 1", "if x :: print 1", "if x : : print 1", "if x ; print 1", "if x, print 1", "print = 1", "print : 1", "print 1 = 2", "print 1 : 2", "x = 1 = 2", "x = y = 1", "x = 1 : 2", "if x = 1 : print 2", "if x : y : print 2", "if x : print 1 : 2", "if x : print 1 = 2", "print 1 / 2", "print 1 > 2", "print 1 <= 2", "print 1 < 2 < 3",
		// Words in another order.
		"1 print", "x print", "= x 1", "1 = x", "x 1 =", "x : if print 1", "if : x print 1", "if print x : 1", "if x print : 1", "if : print 1", "if print 1 : x", "print 1 : if x", "print 1 if x", "if x : 1 print", ": if x print 1", "print if x : 1", "x if : print 1", "print + 1 2", "print 1 2 +", "print x : if",
		// A word too few, or too many.
		"print", "if", "x", "=", ":", "1", "x =", "= 1", "x 1", "if x", "if x :", "if x : print", "if : print", "if : print 1", "if x print 1", "if x 1", "if x : 1", "if print 1", "if print", "if :", "print 1 2", "print x y", "print print 1", "print 1 print", "print 1 print 2", "print x = 1", "x = print 1", "x = if 1", "x x = 1", "x = 1 2", "x = 1 =", "x = y x = 1", "x = x =", "x = 1 print x", "if if x : print 1", "if x : print print 1", "if x : print 1 print 2", "if x : if y : print 1", "if x : print 1 : print 2", "if x : print if 1", "if x : x = 1", "if x = 1", "if x : print x = 1", "if = 1", "print = 1", "if x : print 1 2", "if x y : print 1", "if 1 2 : print 3", "if x : y print 1",
		// Other words in the place of those that say what is done.
		"prints 1", "prin 1", "Print 1", "PRINT 1", "If x : print 1", "if x : Print 1", "iff x : print 1", "i x : print 1", "if x then print 1", "if x : prints 1", "set x = 1", "var x = 1", "x is 1", "int = 1", "as = 1", "bool = x", "when = 1", "say = 1", "1 = 1", "x + y = 1", "1", "x + 1", "x < 3",
		// Texts that end within a part.
		"print 1 +", "print x *", "print x <", "print ( x", "print ( x + 1 )", "x = 1 +", "x = ( y", "if x < : print 1", "if x + : print 1", "if x : print 1 +", "if x < 3 : print x *", "print -", "print +", "print *", "x = -", "if - : print 1", "if x : print +", "print - 1", "print -1", "print +1",
		// Line breaks, and other bytes that are no spaces.
		"print 1\n", "\nprint 1", "print\n1", "print 1\nprint 2", "\n", "print 1\r", "print\t1", "print 1\t", "\tprint 1", "print\v1", "x\n= 1", "x = 1\n", "x =\n1", "if x\n: print 1", "if x :\nprint 1", "if x : print 1\n", "print 1\x00", "print\x001", "\x00print 1", "print \u00a01", "print\u00a01", "\ufeffprint 1", "print 1;", "print 1 # x", "\"print 1\"", "print \u00e9", "print \xff", "\u00e9 = 1", "print \uff11",
		// Numbers and names that are none.
		"print 01", "print 00", "print 1000001", "print 10000000", "print 99999999999999999999", "print 1.0", "print 0x1", "print X", "print abcdefghi", "print x1", "print 1x", "print x_y", "abcdefghi = 1", "x1 = 1", "X = 1", "x = 01", "if 01 : print 1", "if 1 : print 01",
	} {
		checkBareNotRead(t, line)
	}
}

// A text far wider than a line is not gone through for ever, and is not read.
func TestLongTextsAreNoBares(t *testing.T) {
	for _, size := range []int{wideBytes - 1, wideBytes, wideBytes + 1, 200, 5000, 3000000} {
		for _, one := range []string{" ", "x", "1", "(", "\n", "print ", "print 1 ", "if x : ", "\xff", "print 1\n"} {
			checkBareNotRead(t, strings.Repeat(one, size))
			checkBareNotRead(t, "print "+strings.Repeat(one, size))
			checkBareNotRead(t, "x = "+strings.Repeat(one, size))
			checkBareNotRead(t, "print 1"+strings.Repeat(one, size))
			checkBareNotRead(t, strings.Repeat(one, size)+"print 1")
		}
	}
}

func TestTurnedProgramsSayTheSame(t *testing.T) {
	checkTurnings(t, []turning{
		{"", "", nil, true},
		{"\n\n", "\n\n", nil, true},
		{"say 1", "print 1", []int{1}, true},
		{"let x : int = 1", "x = 1", nil, true},
		{"let x : int = 2\nsay x as int\nwhen x < 3 say ( x + 1 ) as int * 2", "x = 2\nprint x\nif x < 3 : print ( x + 1 ) * 2", []int{2, 6}, true},
		{"\nsay 3\n\nsay 1\n", "\nprint 3\n\nprint 1\n", []int{3, 1}, true},
		{"say 3\nsay 1\nsay 3", "print 3\nprint 1\nprint 3", []int{3, 1, 3}, true},
		// A name that is told twice: the last one counts, from then on.
		{"let x : int = 1\nsay x\nlet x : int = 2\nsay x", "x = 1\nprint x\nx = 2\nprint x", []int{1, 2}, true},
		{"let x : int = 5\nlet x : int = 0\nsay x", "x = 5\nx = 0\nprint x", []int{0}, true},
		{"let x : int = 1\nlet x : bool = 1 < 2\nwhen x say 7", "x = 1\nx = 1 < 2\nif x : print 7", []int{7}, true},
		{"let x : int = 3\nlet y : int = x\nlet x : int = 5\nsay y + x", "x = 3\ny = x\nx = 5\nprint y + x", []int{8}, true},
		{"let x : int = 3\nlet y : int = 4\nlet x : int = 5\nsay x\nsay y", "x = 3\ny = 4\nx = 5\nprint x\nprint y", []int{5, 4}, true},
		{"let x : int = 1\nlet xx : int = 2\nsay x\nsay xx", "x = 1\nxx = 2\nprint x\nprint xx", []int{1, 2}, true},
		// A line that uses the name that it tells.
		{"let x : int = 2\nlet x : int = x * x\nlet x : int = x * x - 1\nsay x", "x = 2\nx = x * x\nx = x * x - 1\nprint x", []int{15}, true},
		{"let x : int = x", "x = x", nil, false},
		{"say 4\nlet x : int = ( 1 - x ) as int\nlet x : int = 1\nsay x", "print 4\nx = 1 - x\nx = 1\nprint x", []int{4}, false},
		{"let y : int = 1\nlet x : int = x * 0\nsay y", "y = 1\nx = x * 0\nprint y", nil, false},
		// A name that is used ahead of being told, or never told.
		{"say 5\nsay x\nlet x : int = 1\nsay x", "print 5\nprint x\nx = 1\nprint x", []int{5}, false},
		{"say x as bool", "print x", nil, false},
		{"when x < 1 say 1\nlet x : int = 0", "if x < 1 : print 1\nx = 0", nil, false},
		{"say 1\nsay y\nsay 2", "print 1\nprint y\nprint 2", []int{1}, false},
		{"say 1\nwhen 1 < 2 say 7\nwhen x say 2\nsay 3", "print 1\nif 1 < 2 : print 7\nif x : print 2\nprint 3", []int{1, 7}, false},
		// What is asked comes to 0, to 1, and to another number.
		{"when 0 as bool say 5", "if 0 : print 5", nil, true},
		{"when 1 as bool say 5", "if 1 : print 5", []int{5}, true},
		{"when 2 as bool say 5", "if 2 : print 5", []int{5}, true},
		{"when 256 as bool say 5", "if 256 : print 5", []int{5}, true},
		{"when 1000000 as bool say 0", "if 1000000 : print 0", []int{0}, true},
		{"when ( 0 - 1 ) as bool say 5", "if 0 - 1 : print 5", []int{5}, true},
		{"when 2 < 1 say 5\nsay 6", "if 2 < 1 : print 5\nprint 6", []int{6}, true},
		{"when 1 < 2 say 1 < 2", "if 1 < 2 : print 1 < 2", []int{1}, true},
		{"when 1 < 2 say 3 - 5", "if 1 < 2 : print 3 - 5", []int{-2}, true},
		// What is said is reckoned, whatever is asked comes to.
		{"when 2 < 1 say x", "if 2 < 1 : print x", nil, false},
		{"say 3\nwhen 0 as bool say x as int\nsay 4", "print 3\nif 0 : print x\nprint 4", []int{3}, false},
		{"say 3\nwhen 1 < 2 say x\nsay 4", "print 3\nif 1 < 2 : print x\nprint 4", []int{3}, false},
		{"say 3\nwhen x say x\nsay 4", "print 3\nif x : print x\nprint 4", []int{3}, false},
		// Types that are not right: it says the same all the same.
		{"let b : bool = 7\nsay b + 1\nwhen b say ( 1 < 2 ) + 1", "b = 7\nprint b + 1\nif b : print ( 1 < 2 ) + 1", []int{8, 2}, true},
		{"when 3 say 4\nlet x : int = 1 < 2\nsay x", "if 3 : print 4\nx = 1 < 2\nprint x", []int{4, 1}, true},
		// Brackets that a type had needed: without them it comes to the same.
		{"say 9 - ( 5 - 2 ) as int\nsay ( 9 - 5 ) as int - 2", "print 9 - ( 5 - 2 )\nprint 9 - 5 - 2", []int{6, 2}, true},
		{"say ( 2 * 3 ) as int + 1\nsay 1 + ( 2 * 3 ) as int", "print 2 * 3 + 1\nprint 1 + 2 * 3", []int{7, 7}, true},
		{"say ( 1 + 2 ) as int * 3\nsay 3 * ( 1 + 2 ) as int", "print ( 1 + 2 ) * 3\nprint 3 * ( 1 + 2 )", []int{9, 9}, true},
		{"say ( 1 + 2 ) as int < 3\nsay ( 1 < 2 ) as int < 3", "print 1 + 2 < 3\nprint ( 1 < 2 ) < 3", []int{0, 1}, true},
		// Numbers that are cut.
		{"let x : int = 1000000 + 1\nsay x as int - 1\nsay 0 - x - x", "x = 1000000 + 1\nprint x - 1\nprint 0 - x - x", []int{999999, -1000000}, true},
		{"say ( 1000000 * 2 ) as int - 1000000\nsay 1000000 * ( 2 - 1000000 ) as int", "print 1000000 * 2 - 1000000\nprint 1000000 * ( 2 - 1000000 )", []int{0, -1000000}, true},
	})
}

// All lines but the last one tell a name: each of them is still known there, and of one name the last number.
func TestAsManyNamesAsLines(t *testing.T) {
	for count := 1; count < mostLines; count++ {
		var many, manyBare, chain, chainBare, one, oneBare []string
		before := "0"
		for n := range count {
			name, number := string(rune('a'+n)), strconv.Itoa(n+5)
			many, manyBare = append(many, "let "+name+" : int = "+number), append(manyBare, name+" = "+number)
			chain, chainBare = append(chain, "let "+name+" : int = "+before+" + 3"), append(chainBare, name+" = "+before+" + 3")
			one, oneBare = append(one, "let x : int = "+number), append(oneBare, "x = "+number)
			before = name
		}
		with := func(lines []string, last string) string { return strings.Join(lines, "\n") + "\n" + last }
		checkTurnings(t, []turning{
			{with(chain, "say "+before), with(chainBare, "print "+before), []int{3 * count}, true},
			{with(one, "say x"), with(oneBare, "print x"), []int{count + 4}, true},
			{with(many, "say x"), with(manyBare, "print x"), nil, false},
		})
		for n := range count {
			name := string(rune('a' + n))
			checkTurnings(t, []turning{{with(many, "say "+name+" as int"), with(manyBare, "print "+name), []int{n + 5}, true}})
		}
	}
}

// What was printed ahead of the line that can not be reckoned is told, at whichever place that line is.
func TestWhatWasPrintedAhead(t *testing.T) {
	for at := range mostLines {
		for _, stuck := range []string{"print x", "y = x", "x = x + 1", "if x : print 1", "if 1 < 2 : print x", "if 0 : print x"} {
			var lines []string
			var printed []int
			for n := range mostLines {
				lines = append(lines, "print "+[]string{"3", "1", "4"}[n%3])
				if n < at {
					printed = append(printed, []int{3, 1, 4}[n%3])
				}
			}
			lines[at] = stuck
			checkPrints(t, baresOf(t, lines...), strings.Join(lines, "\n"), printed, false)
			// A second line that can not be reckoned, or one that tells the name, changes nothing behind it.
			for _, last := range []string{"print y", "x = 1"} {
				if at < mostLines-1 {
					lines[mostLines-1] = last
					checkPrints(t, baresOf(t, lines...), strings.Join(lines, "\n"), printed, false)
				}
			}
		}
	}
}

func TestHowManyBares(t *testing.T) {
	for _, none := range [][]impl.Bare{nil, {}, make([]impl.Bare, 0, 5)} {
		checkNotRun(t, none)
	}
	for text, says := range map[string][]int{"": nil, "print 7": {7}, "x = 1": nil, "if 1 : print 2": {2}, "if 0 : print 2": nil} {
		line := baresOf(t, text)[0]
		for count := 1; count <= mostLines; count++ {
			checkPrints(t, slices.Repeat([]impl.Bare{line}, count), strings.Join(slices.Repeat([]string{text}, count), "\n"), slices.Repeat(says, count), true)
		}
		for _, count := range []int{mostLines + 1, mostLines + 2, 2 * mostLines, 256, 257, 1000} {
			checkNotRun(t, slices.Repeat([]impl.Bare{line}, count))
			checkNotPrinted(t, strings.Join(slices.Repeat([]string{text}, count), "\n"))
		}
		// The one line more may be any one, and at any place.
		for at := range mostLines + 1 {
			for _, more := range []string{"", "print 7", "print nothing"} {
				texts := slices.Insert(slices.Repeat([]string{text}, mostLines), at, more)
				if more != "print nothing" {
					checkNotRun(t, baresOf(t, texts...))
				}
				checkNotPrinted(t, strings.Join(texts, "\n"))
			}
		}
	}
	// Room behind the lines does not count.
	room := append(slices.Repeat(baresOf(t, "print 7"), mostLines), prints(name("x")), impl.Bare{Kind: 9})
	if printed, ok := impl.BareRun(room[:mostLines]); !ok || !slices.Equal(printed, slices.Repeat([]int{7}, mostLines)) {
		t.Error(printed, ok)
	}
	checkNotRun(t, room[:mostLines+1])
	checkNotRun(t, room[:0])
	for _, size := range []int{4000, 4001, 1000000} {
		checkNotPrinted(t, strings.Repeat("\n", size))
	}
}

// badBares are lines without types that are not ok.
func badBares() []impl.Bare {
	x := name("x")
	deep := within("second", name("y"), mostAround+1)
	all := []impl.Bare{
		{Kind: -1}, {Kind: 4}, {Kind: 1 << 32}, {Kind: 1<<32 + sayKind, Expr: x}, {Name: "x"}, {Expr: x}, {Then: x}, {Kind: letKind}, {Kind: sayKind}, {Kind: whenKind},
		set("", x), set("int", x), set("print", x), set("let", x), set("X", x), set("abcdefghi", x), set("x", impl.Expr{}), {Kind: letKind, Name: "x", Expr: x, Then: x}, {Kind: sayKind, Name: "x", Expr: x}, {Kind: sayKind, Expr: x, Then: x}, {Kind: sayKind, Then: x},
		printsIf(x, impl.Expr{}), printsIf(impl.Expr{}, x), {Kind: whenKind, Name: "x", Expr: x, Then: x}, prints(deep), set("x", deep), printsIf(deep, x), printsIf(x, deep),
		prints(as(x, "int")), set("x", as(number(1), "int")), printsIf(as(x, "bool"), x), printsIf(x, as(x, "bool")), prints(two(x, "+", as(x, "int"))),
		prints(number(-1)), prints(number(mostNumber + 1)), prints(name("let")), prints(name("")), prints(name("x ")), prints(two(x, "/", x)),
	}
	for _, bad := range badParts() {
		all = append(all, prints(bad), set("x", two(bad, "*", x)), printsIf(bad, x), printsIf(x, two(bad, "+", x)))
	}
	return all
}

func TestBaresThatAreNotOk(t *testing.T) {
	texts := []string{"x = 1", "print x", "", "if 1 < 2 : print x"}
	good := baresOf(t, texts...)
	checkPrints(t, good, strings.Join(texts, "\n"), []int{1, 1}, true)
	for _, bad := range badBares() {
		checkNoBare(t, bad)
		for _, list := range withOne(good, bad) {
			checkNotRun(t, list)
		}
		// Nothing is printed also if an earlier line can not be reckoned.
		checkNotRun(t, []impl.Bare{prints(number(7)), prints(name("y")), bad})
	}
}

func TestStmtsThatAreNotOkAreTurnedIntoNothing(t *testing.T) {
	for _, bad := range badLines() {
		if impl.StmtOk(bad) {
			t.Errorf("ok: %v", bad)
		}
		checkNotTurned(t, bad)
	}
	tooWide, _ := whenOfWidth(t, widestLine+1)
	checkNotTurned(t, tooWide)
	for _, kind := range []int{-1, 4, 256 + letKind, 1<<32 + sayKind, math.MinInt, math.MaxInt} {
		for _, s := range []impl.Stmt{{}, let("x", "int", number(1)), say(number(1)), when(number(1), number(2))} {
			s.Kind = kind
			checkNotTurned(t, s)
		}
	}
}

func TestTextsWithABareThatIsNotRead(t *testing.T) {
	good := []string{"x = 1", "print x", "", "if 1 < 2 : print x"}
	for _, bad := range []string{
		" ", "  ", "print", "print ", " print 1", "print  1", "print 1 ", "print ( 1 )", "print 01", "print 1000001", "print 1 print 2", "x", "x = ", "x=1", "int = 1", "if x", "if x :", "if x print 1", "if x : print", "say 1", "let x : int = 1", "when x say 1", "print x as int", "x : 1", "1", "Print 1", "print 1;", "print abcdefghi",
		"print 1 < 2 < 3", "print 1 +", "-", "print 1\r", "\r", "\t", "print\t1", "print \u00e9", "\x00", "\xff", "\ufeff", strings.Repeat(" ", wideBytes), strings.Repeat("x", wideBytes), strings.Repeat("x", wideBytes+1),
	} {
		checkNotPrinted(t, bad)
		for at := range len(good) + 1 {
			checkNotPrinted(t, strings.Join(slices.Insert(slices.Clone(good), at, bad), "\n"))
		}
		checkNotPrinted(t, strings.Join(append(make([]string, mostLines-1), bad), "\n"))
		// Nothing is printed also if an earlier line can not be reckoned.
		checkNotPrinted(t, "print 7\nprint y\n"+bad)
	}
	for why, text := range badTexts() {
		t.Run(why, func(t *testing.T) {
			for _, one := range []string{text, "print 1\n" + text, text + "\nprint 1", "\n" + text} {
				checkNotPrinted(t, one)
			}
		})
	}
	for _, between := range []string{"", " ", ";", "\r", "\r\n", "\n\r", "\\n", "\v", "\f", "\x00", "\u0085", "\u2028", " \n", "\n "} {
		checkNotPrinted(t, "print 1"+between+"print 2")
	}
}
