package tests

import (
	"math"
	"slices"
	"strings"
	"testing"

	"loop.example/interlinear/impl"
)

// Bounds are written out here, so that a change of a constant is seen.
const (
	mostSegs = 1280
	cameNone = -1
)

// seg says that a word at a line and a byte came from one at another line and byte.
func seg(toLine int, toCol int, fromLine int, fromCol int) impl.Seg {
	return impl.Seg{To: impl.Pos{Line: toLine, Col: toCol}, From: impl.Pos{Line: fromLine, Col: fromCol}}
}

// An emitting is a line, what it is turned into, and between them, under each word that one came from, which word that is: 0 to 9, and then a, b and so on.
type emitting struct{ line, under, bare string }

// from is where each word came from, in the way that EmitLine tells it.
func (e emitting) from() []int {
	from := slices.Repeat([]int{cameNone}, len(strings.Fields(e.bare)))
	for col, sign := range e.under {
		if sign != ' ' {
			from[strings.IndexRune("0123456789abcdefghijklmnopqrstuvwxyz", sign)] = col
		}
	}
	return from
}

// segsOfLine are those of a line without types, of where each of its words came from.
func segsOfLine(line int, bare string, from []int) []impl.Seg {
	var segs []impl.Seg
	col := 0
	for i, word := range strings.Fields(bare) {
		if from[i] != cameNone {
			segs = append(segs, seg(line, col, line, from[i]))
		}
		col += len(word) + 1
	}
	return segs
}

// checkEmitted looks what a line is turned into, and where its words came from: alone, and as a program.
func checkEmitted(t *testing.T, s impl.Stmt, bare string, from []int) {
	t.Helper()
	if text, got := impl.EmitLine(s); text != bare || !slices.Equal(got, from) {
		t.Errorf("%q is emitted as %q %v, want %q %v", lineByRule(s), text, got, bare, from)
	}
	checkEmittedProgram(t, []impl.Stmt{s}, bare, segsOfLine(0, bare, from))
}

func checkEmittedProgram(t *testing.T, p []impl.Stmt, bare string, segs []impl.Seg) {
	t.Helper()
	if got := impl.EmitText(p); got != bare {
		t.Errorf("%q is emitted as %q, want %q", textByRule(p), got, bare)
	}
	if got := impl.EmitSegs(p); !slices.Equal(got, segs) {
		t.Errorf("the words of %q came from %v, want %v", textByRule(p), got, segs)
	}
	checkSegs(t, segs)
}

// checkLineNotEmitted looks for the fixed answers to a line that is not ok.
func checkLineNotEmitted(t *testing.T, s impl.Stmt) {
	t.Helper()
	if text, from := impl.EmitLine(s); text != "" || len(from) != 0 {
		t.Errorf("%.200v is emitted as %q %v", s, text, from)
	}
	checkNotEmitted(t, []impl.Stmt{s})
}

// checkNotEmitted looks for the fixed answers to what is no program.
func checkNotEmitted(t *testing.T, p []impl.Stmt) {
	t.Helper()
	if text := impl.EmitText(p); text != "" {
		t.Errorf("%.200v is emitted as %q", p, text)
	}
	if segs := impl.EmitSegs(p); len(segs) != 0 {
		t.Errorf("the words of %.200v came from %v", p, segs)
	}
}

func checkSegs(t *testing.T, list []impl.Seg) {
	t.Helper()
	if !impl.SegsOk(list) {
		t.Errorf("not ok: %.300v", list)
	}
}

func checkNoSegs(t *testing.T, why string, list []impl.Seg) {
	t.Helper()
	if impl.SegsOk(list) {
		t.Errorf("ok, but %s: %.300v", why, list)
	}
}

func emittings() []emitting {
	return []emitting{
		{"", "", ""},
		// A line of each Kind.
		{
			"say 1",
			"0   1",
			"print 1"},
		{
			"say x",
			"0   1",
			"print x"},
		{
			"say x * y",
			"0   1 2 3",
			"print x * y"},
		{
			"let x : int = 1",
			"    0       1 2",
			"x = 1"},
		{
			"let x : bool = 1",
			"    0        1 2",
			"x = 1"},
		{
			"let longname : bool = x < 20",
			"    0               1 2 3 4",
			"longname = x < 20"},
		{
			"when x say y",
			"0    1 3   4",
			"if x : print y"},
		{
			"when x < 3 say x * 2",
			"0    1 2 3 5   6 7 8",
			"if x < 3 : print x * 2"},
		{
			"when longname < 1000000 say 10 - longname",
			"0    1        2 3       5   6  7 8",
			"if longname < 1000000 : print 10 - longname"},
		// A type at the top: of a name, a number, two parts and another type.
		{
			"say x as int",
			"0   1",
			"print x"},
		{
			"say 70 as bool",
			"0   1",
			"print 70"},
		{
			"say ( x + 1 ) as int",
			"0     1 2 3",
			"print x + 1"},
		{
			"say x as int as bool",
			"0   1",
			"print x"},
		{
			"say ( x < 1 ) as int as bool as int",
			"0     1 2 3",
			"print x < 1"},
		{
			"let x : bool = 1 as bool",
			"    0        1 2",
			"x = 1"},
		{
			"when x as bool say 7 as int as bool",
			"0    1         3   4",
			"if x : print 7"},
		// Types within, of names, numbers and types.
		{
			"say x as int + 1 as int",
			"0   1        2 3",
			"print x + 1"},
		{
			"say 1 - x as bool as int - 2",
			"0   1 2 3                4 5",
			"print 1 - x - 2"},
		{
			"let x : int = 5 as int * y as int",
			"    0       1 2        3 4",
			"x = 5 * y"},
		// Brackets in both lines.
		{
			"say ( 1 + 2 ) * 3",
			"0     2 3 4   6 7",
			"print ( 1 + 2 ) * 3"},
		{
			"say 3 * ( 1 + 2 )",
			"0   1 2   4 5 6",
			"print 3 * ( 1 + 2 )"},
		{
			"say ( x < y ) < ( y < x )",
			"0     2 3 4   6   8 9 a",
			"print ( x < y ) < ( y < x )"},
		{
			"say ( 1 - ( 2 - x ) ) * 3",
			"0     2 3   5 6 7     a b",
			"print ( 1 - ( 2 - x ) ) * 3"},
		{
			"say ( x + 1 ) as int * 2",
			"0     2 3 4          6 7",
			"print ( x + 1 ) * 2"},
		{
			"say 2 * ( x + 1 ) as int",
			"0   1 2   4 5 6",
			"print 2 * ( x + 1 )"},
		{
			"say 2 * ( x * 1 ) as int",
			"0   1 2   4 5 6",
			"print 2 * ( x * 1 )"},
		{
			"say 1 - ( 2 - ( 3 - x ) as int )",
			"0   1 2   4 5   7 8 9",
			"print 1 - ( 2 - ( 3 - x ) )"},
		// Brackets in the line alone: at the first kid, at the second, within one another, around all.
		{
			"say ( x * 1 ) as int * 2",
			"0     1 2 3          4 5",
			"print x * 1 * 2"},
		{
			"say ( x - 1 ) as int - 2",
			"0     1 2 3          4 5",
			"print x - 1 - 2"},
		{
			"say 2 + ( x * 1 ) as int",
			"0   1 2   3 4 5",
			"print 2 + x * 1"},
		{
			"say 2 < ( x + 1 ) as int",
			"0   1 2   3 4 5",
			"print 2 < x + 1"},
		{
			"say ( x * 1 ) as int + ( y * 2 ) as bool",
			"0     1 2 3          4   5 6 7",
			"print x * 1 + y * 2"},
		{
			"say ( ( 1 + 2 ) as int + 3 ) as int",
			"0       1 2 3          4 5",
			"print 1 + 2 + 3"},
		{
			"let x : int = ( ( 1 * 2 ) as int + ( 3 * 4 ) as int ) as int",
			"    0       1     2 3 4          5   6 7 8",
			"x = 1 * 2 + 3 * 4"},
		{
			"when ( x < y ) as bool say ( x * y ) as int",
			"0      1 2 3           5     6 7 8",
			"if x < y : print x * y"},
		// Brackets of both sorts.
		{
			"say ( ( x + 1 ) as int * 2 ) as bool",
			"0       2 3 4          6 7",
			"print ( x + 1 ) * 2"},
		{
			"say ( ( x + 1 ) * 2 ) as int",
			"0       2 3 4   6 7",
			"print ( x + 1 ) * 2"},
		{
			"let x : int = ( 1 < 2 ) as int + ( 3 * 4 ) as int",
			"    0       1   3 4 5          7   8 9 a",
			"x = ( 1 < 2 ) + 3 * 4"},
		{
			"when x < 3 say ( x + 1 ) as int * 2",
			"0    1 2 3 5     7 8 9          b c",
			"if x < 3 : print ( x + 1 ) * 2"},
		{
			"when ( 1 - ( x - y ) as int ) as bool say x",
			"0      1 2   4 5 6                    9   a",
			"if 1 - ( x - y ) : print x"},
		// Words that stand more than once.
		{
			"say 1 + 1 + 1",
			"0   1 2 3 4 5",
			"print 1 + 1 + 1"},
		{
			"say x * ( x * x ) * x as int",
			"0   1 2   4 5 6   8 9",
			"print x * ( x * x ) * x"},
		{
			"say ( 2 * 2 ) as int * 2 as int",
			"0     1 2 3          4 5",
			"print 2 * 2 * 2"},
		{
			"when x < x say x < x",
			"0    1 2 3 5   6 7 8",
			"if x < x : print x < x"},
		{
			"when 1 as bool say 1 as bool",
			"0    1         3   4",
			"if 1 : print 1"},
		{
			"when ( b < b ) as bool say ( b < b ) as bool",
			"0      1 2 3           5     6 7 8",
			"if b < b : print b < b"},
		// A name that is the one that is told.
		{
			"let x : int = x",
			"    0       1 2",
			"x = x"},
		{
			"let x : int = x * x as int - x",
			"    0       1 2 3 4        5 6",
			"x = x * x - x"},
		{
			"let b : bool = b as bool as bool",
			"    0        1 2",
			"b = b"},
		// Names that begin as other words do, or as one another.
		{
			"let lets : int = says + whens - ass",
			"    0          1 2    3 4     5 6",
			"lets = says + whens - ass"},
		{
			"when ints say prints * iff as bool",
			"0    1    3   4      5 6",
			"if ints : print prints * iff"},
		{
			"say x + xx + xxx + xx + x",
			"0   1 2 3  4 5   6 7  8 9",
			"print x + xx + xxx + xx + x"},
		{
			"say 1 + 11 + 111 + 11 + 1",
			"0   1 2 3  4 5   6 7  8 9",
			"print 1 + 11 + 111 + 11 + 1"},
	}
}

func TestEmittedByHand(t *testing.T) {
	for _, e := range emittings() {
		s := progOf(t, e.line)[0]
		checkEmitted(t, s, e.bare, e.from())
		checkTurned(t, s, impl.BareOf(s), e.bare)
	}
}

// Each two of them as a program, one behind the other, and with lines that are nothing ahead of them, between them and behind.
func TestEmittedProgramsByHand(t *testing.T) {
	nothing := emitting{}
	for _, first := range emittings() {
		for _, second := range emittings() {
			for _, lines := range [][]emitting{{first, second}, {nothing, first, nothing, nothing, second, nothing}, slices.Repeat([]emitting{first, second}, mostLines/2)} {
				var texts, bares []string
				var segs []impl.Seg
				for i, e := range lines {
					texts, bares = append(texts, e.line), append(bares, e.bare)
					segs = append(segs, segsOfLine(i, e.bare, e.from())...)
				}
				checkEmittedProgram(t, progOf(t, texts...), strings.Join(bares, "\n"), segs)
			}
		}
	}
}

// The program of the document's example; the first two of its lines have the map that stands there.
func TestEmittedProgramOfTheExample(t *testing.T) {
	p := progOf(t, "let x : int = 2", "say x as int", "when x < 3 say ( x + 1 ) as int * 2")
	segs := []impl.Seg{
		seg(0, 0, 0, 4), seg(0, 2, 0, 12), seg(0, 4, 0, 14),
		seg(1, 0, 1, 0), seg(1, 6, 1, 4),
		seg(2, 0, 2, 0), seg(2, 3, 2, 5), seg(2, 5, 2, 7), seg(2, 7, 2, 9), seg(2, 11, 2, 11),
		seg(2, 19, 2, 17), seg(2, 21, 2, 19), seg(2, 23, 2, 21), seg(2, 27, 2, 32), seg(2, 29, 2, 34),
	}
	checkEmittedProgram(t, p[:2], "x = 2\nprint x", segs[:5])
	checkEmittedProgram(t, p, "x = 2\nprint x\nif x < 3 : print ( x + 1 ) * 2", segs)
}

// Each mark within each mark, as of a type or not, as the first and as the second kid.
func TestEmittedBrackets(t *testing.T) {
	// from is where words came from, of what is printed: each but a bracket from the next one of these bytes.
	from := func(bare string, bytes ...int) []int {
		var all []int
		for _, word := range strings.Fields(bare) {
			if word == "(" || word == ")" {
				all = append(all, cameNone)
				continue
			}
			all, bytes = append(all, bytes[0]), bytes[1:]
		}
		return all
	}
	for _, row := range bracketRows {
		first := emitting{line: "say ( a " + row.inner + " b ) as int " + row.outer + " c", bare: "print " + row.first}
		second := emitting{line: "say a " + row.outer + " ( b " + row.inner + " c ) as bool", bare: "print " + row.second}
		checkEmitted(t, progOf(t, first.line)[0], first.bare, from(first.bare, 0, 6, 8, 10, 21, 23))
		checkEmitted(t, progOf(t, second.line)[0], second.bare, from(second.bare, 0, 4, 6, 10, 12, 14))
		// Without a type the brackets are the same on both sides: each word is two bytes further on than it was, but for the first.
		for _, part := range []string{row.first, row.second} {
			s := progOf(t, "say "+part)[0]
			var same []int
			for col, b := range part {
				if b == '(' || b == ')' {
					same = append(same, cameNone)
				} else if b != ' ' {
					same = append(same, len("say ")+col)
				}
			}
			checkEmitted(t, s, "print "+part, append([]int{0}, same...))
		}
	}
}

// Of the widest lines that there are the last word begins further on than it does in the line.
func TestWidestEmitted(t *testing.T) {
	text := "when longname + longname + ( longname + longname ) say bbbbbbbb + bbbbbbbb + ( bbbbbbbb + bbbbbbbb ) + bbbbbbb * bbb"
	bare := "if longname + longname + ( longname + longname ) : print bbbbbbbb + bbbbbbbb + ( bbbbbbbb + bbbbbbbb ) + bbbbbbb * bbb"
	from := []int{0, 5, 14, 16, 25, cameNone, 29, 38, 40, cameNone, cameNone, 51, 55, 64, 66, 75, cameNone, 79, 88, 90, cameNone, 101, 103, 111, 113}
	s := progOf(t, text)[0]
	if len(text) != widestLine || len(bare) != widestLine+2 {
		t.Fatal(len(text), len(bare))
	}
	checkEmitted(t, s, bare, from)
	var segs []impl.Seg
	for line := range mostLines {
		segs = append(segs, segsOfLine(line, bare, from)...)
	}
	if last := segs[len(segs)-1]; last != seg(15, 115, 15, 113) {
		t.Fatal("the last word comes from", last)
	}
	checkEmittedProgram(t, slices.Repeat([]impl.Stmt{s}, mostLines), strings.Join(slices.Repeat([]string{bare}, mostLines), "\n"), segs)
	wider := s
	wider.Then = two(s.Then.Kids[0], "+", two(name("bbbbbbbb"), "*", name("bbb")))
	if len(lineByRule(wider)) != widestLine+1 {
		t.Fatal(lineByRule(wider))
	}
	checkLineNotEmitted(t, wider)
}

func TestHowManyEmitted(t *testing.T) {
	for _, none := range [][]impl.Stmt{nil, {}, make([]impl.Stmt, 0, 5)} {
		checkNotEmitted(t, none)
	}
	for _, e := range emittings() {
		s := progOf(t, e.line)[0]
		var bares []string
		var segs []impl.Seg
		for line := range mostLines {
			bares, segs = append(bares, e.bare), append(segs, segsOfLine(line, e.bare, e.from())...)
			checkEmittedProgram(t, slices.Repeat([]impl.Stmt{s}, line+1), strings.Join(bares, "\n"), segs)
		}
		for _, count := range []int{mostLines + 1, mostLines + 2, 2 * mostLines, 256, 257, 1000} {
			checkNotEmitted(t, slices.Repeat([]impl.Stmt{s}, count))
		}
		// The one line more may be any one, and at any place.
		for at := range mostLines + 1 {
			for _, more := range []impl.Stmt{{}, say(number(7))} {
				checkNotEmitted(t, slices.Insert(slices.Repeat([]impl.Stmt{s}, mostLines), at, more))
			}
		}
	}
	// Room behind the lines does not count.
	room := append(slices.Repeat(progOf(t, "say 7"), mostLines), say(name("x")), impl.Stmt{Kind: 9})
	checkEmittedProgram(t, room[:1], "print 7", []impl.Seg{seg(0, 0, 0, 0), seg(0, 6, 0, 4)})
	checkNotEmitted(t, room[:mostLines+1])
	checkNotEmitted(t, room[:0])
}

// A program of lines that are nothing is turned into newlines, and no word came from one.
func TestEmittedOfNothing(t *testing.T) {
	for count := 1; count <= mostLines; count++ {
		checkEmittedProgram(t, make([]impl.Stmt, count), strings.Repeat("\n", count-1), nil)
	}
	checkEmitted(t, impl.Stmt{Kind: noneKind, Expr: impl.Expr{Kids: []impl.Expr{}}, Then: impl.Expr{Kids: make([]impl.Expr, 0, 3)}}, "", nil)
	// One line that is something, at each place.
	for at := range mostLines {
		p := make([]impl.Stmt, mostLines)
		p[at] = say(as(name("x"), "int"))
		checkEmittedProgram(t, p, strings.Repeat("\n", at)+"print x"+strings.Repeat("\n", mostLines-1-at), []impl.Seg{seg(at, 0, at, 0), seg(at, 6, at, 4)})
	}
}

func TestLinesThatAreNotOkAreNotEmitted(t *testing.T) {
	good := progOf(t, "let x : int = 1", "say x", "", "when 1 < 2 say x")
	checkEmittedProgram(t, good[:2], "x = 1\nprint x", []impl.Seg{seg(0, 0, 0, 4), seg(0, 2, 0, 12), seg(0, 4, 0, 14), seg(1, 0, 1, 0), seg(1, 6, 1, 4)})
	tooWide, _ := whenOfWidth(t, widestLine+1)
	for _, bad := range append(badLines(), tooWide) {
		checkLineNotEmitted(t, bad)
		for _, p := range withOne(good, bad) {
			checkNotEmitted(t, p)
		}
	}
	for _, kind := range []int{-1, 4, 256 + letKind, 1<<32 + sayKind, math.MinInt, math.MaxInt} {
		for _, s := range append([]impl.Stmt{{}}, good...) {
			s.Kind = kind
			checkLineNotEmitted(t, s)
		}
	}
}

// Types that are not right, and names that are not told, are no matter: each line is turned all the same.
func TestProgramsThatAreStuckAreEmitted(t *testing.T) {
	checkEmittedProgram(t, progOf(t, "say x", "let x : int = 1 < 2", "when 3 say x + ( 1 < 2 )"), "print x\nx = 1 < 2\nif 3 : print x + ( 1 < 2 )", []impl.Seg{
		seg(0, 0, 0, 0), seg(0, 6, 0, 4),
		seg(1, 0, 1, 4), seg(1, 2, 1, 12), seg(1, 4, 1, 14), seg(1, 6, 1, 16), seg(1, 8, 1, 18),
		seg(2, 0, 2, 0), seg(2, 3, 2, 5), seg(2, 7, 2, 7), seg(2, 13, 2, 11), seg(2, 15, 2, 13), seg(2, 19, 2, 17), seg(2, 21, 2, 19), seg(2, 23, 2, 21),
	})
}

// segRow are so many that are ok, one at each byte from a place on, line by line.
func segRow(count int, line int, col int) []impl.Seg {
	var list []impl.Seg
	for i := range count {
		at := line*wideBytes + col + i
		list = append(list, seg(at/wideBytes, at%wideBytes, (7*i+3)%mostLines, (11*i+5)%wideBytes))
	}
	return list
}

func TestHowManySegs(t *testing.T) {
	checkSegs(t, nil)
	checkSegs(t, []impl.Seg{})
	checkSegs(t, make([]impl.Seg, 0, 5))
	checkSegs(t, []impl.Seg{{}})
	for _, count := range []int{1, 2, 119, 120, 121, 640, mostSegs - 1, mostSegs} {
		checkSegs(t, segRow(count, 0, 0))
		last := mostLines*wideBytes - count
		checkSegs(t, segRow(count, last/wideBytes, last%wideBytes))
	}
	for _, count := range []int{mostSegs + 1, mostSegs + 2, 1500, mostLines * wideBytes} {
		checkNoSegs(t, "too many", segRow(count, 0, 0))
		last := mostLines*wideBytes - count
		checkNoSegs(t, "too many", segRow(count, last/wideBytes, last%wideBytes))
	}
	// Room behind the list does not count.
	room := append(segRow(mostSegs, 0, 0), seg(11, 0, 0, 0), seg(-1, 0, 0, 0))
	checkSegs(t, room[:mostSegs])
	checkNoSegs(t, "too many", room[:mostSegs+1])
	checkSegs(t, room[:3])
	checkSegs(t, room[:0])
	checkNoSegs(t, "very many", make([]impl.Seg, 1000000))
}

// A segPart is one of the four numbers of a Seg; past is one more than it may be.
type segPart struct {
	name string
	of   func(*impl.Seg) *int
	past int
}

func segParts() []segPart {
	return []segPart{
		{"Line of To", func(s *impl.Seg) *int { return &s.To.Line }, mostLines},
		{"Col of To", func(s *impl.Seg) *int { return &s.To.Col }, wideBytes},
		{"Line of From", func(s *impl.Seg) *int { return &s.From.Line }, mostLines},
		{"Col of From", func(s *impl.Seg) *int { return &s.From.Col }, wideBytes},
	}
}

func TestBoundsOfSegs(t *testing.T) {
	for _, part := range segParts() {
		with := func(one impl.Seg, n int) impl.Seg {
			*part.of(&one) = n
			return one
		}
		for _, one := range []impl.Seg{{}, seg(15, 119, 15, 119), seg(7, 60, 0, 119), seg(3, 0, 15, 0)} {
			for n := range part.past {
				checkSegs(t, []impl.Seg{with(one, n)})
			}
			for _, n := range []int{-1, -2, -part.past, part.past, part.past + 1, 2 * part.past, 128, 255, 256, 1 << 31, 1 << 32, -1 << 32, 1<<32 + 1, math.MinInt, math.MaxInt} {
				checkNoSegs(t, part.name, []impl.Seg{with(one, n)})
			}
		}
		// Of a list that is in order: below 0 at the first, too great at the last, so that the bound alone refuses it.
		for _, count := range []int{2, 3, 100} {
			first, last := segRow(count, 0, 0), segRow(count, 14, 0)
			first[0] = with(first[0], -1)
			checkNoSegs(t, part.name, first)
			last[count-1] = with(last[count-1], part.past)
			checkNoSegs(t, part.name, last)
		}
	}
	// In between, where it is in order, too.
	for _, between := range []impl.Seg{seg(4, wideBytes, 0, 0), seg(5, -1, 0, 0)} {
		checkNoSegs(t, "Col of To", []impl.Seg{seg(4, wideBytes-1, 0, 0), between, seg(5, 0, 0, 0)})
	}
	// From has no order, so any one may be past its bounds.
	for _, part := range segParts()[2:] {
		for _, n := range []int{-1, part.past} {
			for at := range 20 {
				list := segRow(20, 4, 110)
				checkSegs(t, list)
				*part.of(&list[at]) = n
				checkNoSegs(t, part.name, list)
			}
			full := segRow(mostSegs, 0, 0)
			*part.of(&full[mostSegs-1]) = n
			checkNoSegs(t, part.name, full)
		}
	}
}

func TestOrderOfSegs(t *testing.T) {
	for _, list := range [][]impl.Seg{
		{seg(0, 0, 0, 0), seg(0, 1, 0, 0)},
		{seg(0, 118, 0, 0), seg(0, 119, 0, 0)},
		{seg(0, 119, 0, 0), seg(1, 0, 0, 0)},
		{seg(0, 5, 0, 0), seg(1, 5, 0, 0)},
		{seg(0, 0, 0, 0), seg(15, 119, 0, 0)},
		{seg(14, 119, 0, 0), seg(15, 0, 0, 0)},
		// From in any order.
		{seg(3, 0, 5, 5), seg(3, 4, 5, 4), seg(4, 0, 4, 9), seg(4, 1, 15, 119), seg(4, 2, 0, 0)},
		{seg(3, 0, 5, 5), seg(3, 4, 5, 5), seg(4, 0, 5, 5)},
		{seg(9, 9, 15, 119), seg(10, 0, 0, 0)},
	} {
		checkSegs(t, list)
		for i := range len(list) - 1 {
			swapped := slices.Clone(list)
			swapped[i], swapped[i+1] = swapped[i+1], swapped[i]
			checkNoSegs(t, "in the wrong order", swapped)
			twice := slices.Clone(list)
			twice[i+1].To = twice[i].To
			checkNoSegs(t, "two To are the same", twice)
		}
		checkNoSegs(t, "the last is there twice", append(slices.Clone(list), list[len(list)-1]))
		checkNoSegs(t, "the first is there twice", append(slices.Clone(list[:1]), list...))
		checkNoSegs(t, "it is there twice", append(slices.Clone(list), list...))
	}
	// In a long list, at each place.
	for at := range 259 {
		swapped, twice := segRow(260, 2, 7), segRow(260, 2, 7)
		swapped[at], swapped[at+1] = swapped[at+1], swapped[at]
		checkNoSegs(t, "in the wrong order", swapped)
		twice[at].To = twice[at+1].To
		checkNoSegs(t, "two To are the same", twice)
	}
	// A lesser Line is ahead, whatever the Col.
	checkNoSegs(t, "in the wrong order", []impl.Seg{seg(5, 0, 0, 0), seg(4, 119, 0, 0)})
	checkNoSegs(t, "in the wrong order", []impl.Seg{seg(5, 3, 0, 0), seg(4, 3, 0, 0)})
	checkNoSegs(t, "in the wrong order", []impl.Seg{seg(5, 3, 0, 0), seg(5, 2, 9, 9)})
	checkNoSegs(t, "two To are the same", []impl.Seg{seg(5, 3, 0, 0), seg(5, 3, 1, 1)})
}

func checkSameSegs(t *testing.T, a []impl.Seg, b []impl.Seg, want bool) {
	t.Helper()
	if impl.SegsSame(a, b) != want || impl.SegsSame(b, a) != want {
		t.Errorf("%.200v and %.200v: want %v", a, b, want)
	}
}

func TestSameSegs(t *testing.T) {
	checkSameSegs(t, nil, nil, true)
	checkSameSegs(t, nil, []impl.Seg{}, true)
	checkSameSegs(t, []impl.Seg{}, make([]impl.Seg, 0, 4), true)
	checkSameSegs(t, nil, []impl.Seg{{}}, false)
	// What is not ok can be the same, too.
	for _, list := range [][]impl.Seg{
		{{}}, {{}, {}}, {seg(-1, -2, -3, -4)}, {seg(99, 1000, math.MaxInt, math.MinInt), seg(1, 1, 1, 1), seg(0, 0, 0, 0)},
		{seg(0, 1, 2, 3)}, {seg(0, 1, 2, 3), seg(4, 5, 6, 7)}, segRow(7, 3, 118), segRow(mostSegs, 0, 0), segRow(mostSegs+1, 0, 0),
	} {
		checkSameSegs(t, list, list, true)
		checkSameSegs(t, list, slices.Clone(list), true)
		// The same one, with other room behind it.
		checkSameSegs(t, append(slices.Clone(list), seg(1, 2, 3, 4))[:len(list)], append(slices.Clone(list), seg(5, 6, 7, 8))[:len(list)], true)
		checkSameSegs(t, list, list[1:], false)
		checkSameSegs(t, list, list[:len(list)-1], false)
		checkSameSegs(t, list, nil, false)
		checkSameSegs(t, list, append(slices.Clone(list), impl.Seg{}), false)
		checkSameSegs(t, list, append([]impl.Seg{{}}, list...), false)
		for _, at := range []int{0, len(list) / 2, len(list) - 1} {
			for _, by := range []int{1, -1, 256, 1 << 32, math.MinInt} {
				for _, part := range segParts() {
					other := slices.Clone(list)
					*part.of(&other[at]) += by
					checkSameSegs(t, list, other, false)
				}
			}
			turned := slices.Clone(list)
			turned[at].To, turned[at].From = turned[at].From, turned[at].To
			checkSameSegs(t, list, turned, list[at].To == list[at].From)
			if at > 0 {
				swapped := slices.Clone(list)
				swapped[at], swapped[at-1] = swapped[at-1], swapped[at]
				checkSameSegs(t, list, swapped, list[at] == list[at-1])
			}
		}
	}
	many := make([]impl.Seg, 1000000)
	other := slices.Clone(many)
	checkSameSegs(t, many, other, true)
	other[999999].From.Col = 1
	if impl.SegsSame(many, other) {
		t.Error("the same, but for the last of many")
	}
}
