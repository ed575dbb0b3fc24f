package tests

import (
	"math"
	"regexp"
	"slices"
	"strconv"
	"strings"
	"testing"

	"loop.example/interlinear/impl"
)

// Bounds and kinds are written out here, so that a change of a constant is seen.
const (
	longWord = 8
	wordKind = 1
	numKind  = 2
	markKind = 3
)

// goodWords are texts that are words, each beside its kind.
func goodWords() map[string]int {
	words := map[string]int{
		"a": wordKind, "z": wordKind, "x": wordKind, "let": wordKind, "say": wordKind, "print": wordKind, "int": wordKind,
		"zzzzzzz": wordKind, "abcdefgh": wordKind, "zyxwvuts": wordKind, "aaaaaaaa": wordKind,
		"0": numKind, "1": numKind, "9": numKind, "10": numKind, "20": numKind, "99": numKind, "100": numKind, "909": numKind,
		"65535": numKind, "99999": numKind, "100000": numKind, "999999": numKind, "1000000": numKind,
	}
	for _, mark := range []string{"+", "-", "*", "<", "(", ")", ":", "="} {
		words[mark] = markKind
	}
	return words
}

// badWords are texts that are words of no kind.
func badWords() map[string]string {
	return map[string]string{
		"the empty text":                 "",
		"one letter too many":            "abcdefghi",
		"far too many letters":           strings.Repeat("a", 5000),
		"a great letter":                 "X",
		"a great letter ahead":           "Let",
		"a great letter behind":          "leT",
		"the byte ahead of a":            "`",
		"the byte behind z":              "{",
		"the byte ahead of 0":            "/",
		"the byte behind 9":              ";",
		"a letter of two bytes":          "\u00e9",
		"letters around one of two":      "caf\u00e9s",
		"a digit that is no ASCII":       "\u0663",
		"a wide letter a":                "\uff41",
		"a byte that is no rune":         "\xff",
		"letters ahead of such a byte":   "ab\x80",
		"the rune of a bad byte":         "\ufffd",
		"a zero byte":                    "\x00",
		"a zero byte behind a letter":    "a\x00",
		"a letter and a digit":           "a1",
		"a digit and a letter":           "1a",
		"a line below":                   "a_b",
		"a letter and a mark":            "a+",
		"a mark and a letter":            "+a",
		"a mark and a digit":             "+1",
		"a number below 0":               "-1",
		"an opposite of 0":               "-0",
		"a digit and a mark":             "1-",
		"two zeros":                      "00",
		"a needless zero":                "01",
		"many needless zeros":            "0000001",
		"the greatest with a zero":       "01000000",
		"one more than the greatest":     "1000001",
		"a digit more than the greatest": "10000000",
		"seven nines":                    "9999999",
		"a number past 32 bits":          "4294967296",
		"a number past 64 bits":          "18446744073709551616",
		"1 past 64 bits":                 "18446744073709551617",
		"far too many digits":            strings.Repeat("1", 5000),
		"zeros without an end":           strings.Repeat("0", 5000),
		"digits with a line below":       "1_000",
		"a fraction":                     "1.0",
		"a power":                        "1e3",
		"a base":                         "0x1",
		"two marks":                      "+-",
		"two marks that are neighbours":  "()",
		"a mark twice":                   "==",
		"all marks":                      "+-*<():=",
		"marks with spaces":              "+ -",
		"another mark":                   "?",
		"a mark that is not there":       ">",
		"a space":                        " ",
		"a space ahead":                  " a",
		"a space behind":                 "a ",
		"a space behind a number":        "1 ",
		"a space behind a mark":          "+ ",
		"a tab":                          "\t",
		"a newline":                      "\n",
		"a newline behind":               "a\n",
		"a newline behind a number":      "1\n",
		"two words":                      "a b",
	}
}

func checkKind(t *testing.T, s string, want int) {
	t.Helper()
	if got := impl.TokKind(s); got != want {
		t.Errorf("kind of %.40q: %d, want %d", s, got, want)
	}
	for kind := -3; kind <= 12; kind++ {
		if impl.TokOk(kind, s) != (kind == want && want != 0) {
			t.Errorf("%.40q as kind %d, want %d", s, kind, want)
		}
	}
	for _, kind := range []int{math.MinInt, math.MinInt + 1, 1 - 1<<32, 257, 258, 259, 1<<32 + 1, 1<<32 + 2, 1<<32 + 3, math.MaxInt} {
		if impl.TokOk(kind, s) {
			t.Errorf("%.40q as kind %d", s, kind)
		}
	}
}

func checkLine(t *testing.T, line string, want ...impl.Tok) {
	t.Helper()
	if list, ok := impl.TokLine(line); !ok || !slices.Equal(list, want) {
		t.Errorf("%.130q: %v %v, want %v", line, list, ok, want)
	}
}

func checkNoLine(t *testing.T, line string) {
	t.Helper()
	if list, ok := impl.TokLine(line); ok || len(list) != 0 {
		t.Errorf("%.130q: %v %v", line, list, ok)
	}
}

func word(s string, col int) impl.Tok {
	return impl.Tok{Kind: wordKind, S: s, Col: col}
}

func num(s string, col int) impl.Tok {
	return impl.Tok{Kind: numKind, S: s, Col: col}
}

func mark(s string, col int) impl.Tok {
	return impl.Tok{Kind: markKind, S: s, Col: col}
}

func TestBoundsOfWords(t *testing.T) {
	if impl.TokLong != longWord || impl.TokMany != 40 {
		t.Error("bounds", impl.TokLong, impl.TokMany)
	}
	if impl.TokWord != wordKind || impl.TokNum != numKind || impl.TokMark != markKind {
		t.Error("kinds", impl.TokWord, impl.TokNum, impl.TokMark)
	}
}

func TestKindOfGoodWords(t *testing.T) {
	for s, kind := range goodWords() {
		checkKind(t, s, kind)
	}
}

func TestKindOfBadWords(t *testing.T) {
	for name, s := range badWords() {
		t.Run(name, func(t *testing.T) { checkKind(t, s, 0) })
	}
}

// kindOfByte is the kind of a text of that byte alone.
func kindOfByte(b byte) int {
	switch {
	case 'a' <= b && b <= 'z':
		return wordKind
	case '0' <= b && b <= '9':
		return numKind
	case strings.IndexByte("+-*<():=", b) >= 0:
		return markKind
	}
	return 0
}

func TestKindOfEachByte(t *testing.T) {
	for b := range 256 {
		checkKind(t, string([]byte{byte(b)}), kindOfByte(byte(b)))
	}
}

// A byte among letters, or among digits, is one of these, or there is no word.
func TestKindWithEachByteWithin(t *testing.T) {
	for b := range 256 {
		one, among := string([]byte{byte(b)}), kindOfByte(byte(b))
		letters, digits := 0, 0
		switch among {
		case wordKind:
			letters = wordKind
		case numKind:
			digits = numKind
		}
		for _, s := range []string{one + "bc", "b" + one + "c", "bc" + one, "abcdefg" + one, one + "abcdefg"} {
			checkKind(t, s, letters)
		}
		for _, s := range []string{"2" + one + "3", "23" + one, "20000" + one} {
			checkKind(t, s, digits)
		}
	}
}

func TestKindOfEachLength(t *testing.T) {
	for size := 1; size <= 40; size++ {
		want := 0
		if size <= longWord {
			want = wordKind
		}
		checkKind(t, strings.Repeat("q", size), want)
	}
}

func TestKindOfEachNumber(t *testing.T) {
	for n := range mostNumber + 3000 {
		s, want := strconv.Itoa(n), 0
		if n <= mostNumber {
			want = numKind
		}
		if impl.TokKind(s) != want || impl.TokOk(numKind, s) != (want == numKind) {
			t.Fatalf("%s: want kind %d", s, want)
		}
	}
	for n := 1; n <= mostNumber; n = n*3 + 1 {
		for _, sign := range []string{"0", "00", "-", "+", " "} {
			checkKind(t, sign+strconv.Itoa(n), 0)
		}
	}
}

func TestKindOfAllPairsOfMarks(t *testing.T) {
	for _, a := range "+-*<():=" {
		for _, b := range "+-*<():=" {
			checkKind(t, string(a)+string(b), 0)
		}
	}
}

func TestLinesByHand(t *testing.T) {
	checkLine(t, "say x", word("say", 0), word("x", 4))
	checkLine(t, "let x : int = 2", word("let", 0), word("x", 4), mark(":", 6), word("int", 8), mark("=", 12), num("2", 14))
	checkLine(t, "let x:int = 1+20",
		word("let", 0), word("x", 4), mark(":", 5), word("int", 6), mark("=", 10), num("1", 12), mark("+", 13), num("20", 14))
	checkLine(t, "when x < 3 say ( x + 1 ) as int * 2",
		word("when", 0), word("x", 5), mark("<", 7), num("3", 9), word("say", 11), mark("(", 15), word("x", 17), mark("+", 19),
		num("1", 21), mark(")", 23), word("as", 25), word("int", 28), mark("*", 32), num("2", 34))
	checkLine(t, "a", word("a", 0))
	checkLine(t, "7", num("7", 0))
	checkLine(t, "(", mark("(", 0))
	checkLine(t, "abcdefgh 1000000 0", word("abcdefgh", 0), num("1000000", 9), num("0", 17))
}

func TestSeveralSpacesBetween(t *testing.T) {
	checkLine(t, "a  b", word("a", 0), word("b", 3))
	checkLine(t, "a          1     +   b", word("a", 0), num("1", 11), mark("+", 17), word("b", 21))
	checkLine(t, "1 1  1   1", num("1", 0), num("1", 2), num("1", 5), num("1", 9))
	checkLine(t, "+ +  +   +", mark("+", 0), mark("+", 2), mark("+", 5), mark("+", 9))
}

func TestSpacesAheadAndBehind(t *testing.T) {
	checkLine(t, "")
	checkLine(t, " a", word("a", 1))
	checkLine(t, "a ", word("a", 0))
	checkLine(t, " a ", word("a", 1))
	checkLine(t, "   12   ", num("12", 3))
	checkLine(t, "  )  ", mark(")", 2))
	checkLine(t, "     a b     ", word("a", 5), word("b", 7))
	for size := range wideBytes + 1 {
		checkLine(t, strings.Repeat(" ", size))
		if size > 0 {
			checkLine(t, strings.Repeat(" ", size-1)+"x", word("x", size-1))
			checkLine(t, "x"+strings.Repeat(" ", size-1), word("x", 0))
		}
	}
}

func TestWordsThatTouch(t *testing.T) {
	checkLine(t, "a1", word("a", 0), num("1", 1))
	checkLine(t, "1a", num("1", 0), word("a", 1))
	checkLine(t, "abc123def", word("abc", 0), num("123", 3), word("def", 6))
	checkLine(t, "12ab34", num("12", 0), word("ab", 2), num("34", 4))
	checkLine(t, "a0b0", word("a", 0), num("0", 1), word("b", 2), num("0", 3))
	checkLine(t, "x+1", word("x", 0), mark("+", 1), num("1", 2))
	checkLine(t, "1+x", num("1", 0), mark("+", 1), word("x", 2))
	checkLine(t, "-1", mark("-", 0), num("1", 1))
	checkLine(t, "1-", num("1", 0), mark("-", 1))
	checkLine(t, "(a)", mark("(", 0), word("a", 1), mark(")", 2))
	checkLine(t, "((", mark("(", 0), mark("(", 1))
	checkLine(t, "===", mark("=", 0), mark("=", 1), mark("=", 2))
	checkLine(t, "()", mark("(", 0), mark(")", 1))
	checkLine(t, "+-*<():=",
		mark("+", 0), mark("-", 1), mark("*", 2), mark("<", 3), mark("(", 4), mark(")", 5), mark(":", 6), mark("=", 7))
	checkLine(t, "let0say", word("let", 0), num("0", 3), word("say", 4))
	checkLine(t, "abcdefgh1000000abcdefgh", word("abcdefgh", 0), num("1000000", 8), word("abcdefgh", 15))
	checkLine(t, "0x10", num("0", 0), word("x", 1), num("10", 2))
	checkLine(t, "1e3", num("1", 0), word("e", 1), num("3", 2))
	// Letters beside letters, and digits beside digits, do not touch: they are one word.
	checkLine(t, "letx", word("letx", 0))
	checkLine(t, "10", num("10", 0))
}

// Each two good words, with no space, one and more of them between; those of letters, and of digits, become one where they touch.
func TestEachTwoWords(t *testing.T) {
	for a, kind := range goodWords() {
		for b, other := range goodWords() {
			first := impl.Tok{Kind: kind, S: a, Col: 0}
			for _, gap := range []int{1, 2, 7} {
				checkLine(t, a+strings.Repeat(" ", gap)+b, first, impl.Tok{Kind: other, S: b, Col: len(a) + gap})
			}
			if kind != other || kind == markKind {
				checkLine(t, a+b, first, impl.Tok{Kind: other, S: b, Col: len(a)})
			} else if one := impl.TokKind(a + b); one == 0 {
				checkNoLine(t, a+b)
			} else {
				checkLine(t, a+b, impl.Tok{Kind: one, S: a + b})
			}
		}
	}
}

func TestWordsThatAreNone(t *testing.T) {
	for _, bad := range []string{
		"abcdefghi", "abcdefghijklmnop", "1000001", "10000000", "00", "01", "007", "18446744073709551617",
		"X", "Let", "leT", "?", ">", "a?", "?a", "1.5", "a_b", "a,b", ";", "/", "`", "{", "[", "!", "~", "\"",
		"\t", "a\tb", "\n", "a\n", "\na", "a\nb", "\r", "\x00", "a\x00", "\x1f", "\x7f", "\x80", "\xff", "a\xffb", "\xc3",
		"\u00e9", "caf\u00e9", "\u00a0", "\u2003", "\u0663", "\uff41", "\uff11", "\u2212", "\ufffd", "\U0001f600",
	} {
		for _, ahead := range []string{"", " ", "let x : int = ", "+", "( ", strings.Repeat(" ", 60)} {
			for _, behind := range []string{"", " ", " + 1", "+", " x", ")", strings.Repeat(" ", 30)} {
				checkNoLine(t, ahead+bad+behind)
			}
		}
	}
}

func TestLineOfEachByte(t *testing.T) {
	for b := range 256 {
		one, kind := string([]byte{byte(b)}), kindOfByte(byte(b))
		if b == ' ' {
			continue
		}
		for _, line := range []string{one, " " + one, one + " ", "= " + one, one + " =", "=" + one + "=", "a " + one + " 1"} {
			if kind == 0 {
				checkNoLine(t, line)
				continue
			}
			list, ok := impl.TokLine(line)
			at := slices.Index(list, impl.Tok{Kind: kind, S: one, Col: strings.Index(line, one)})
			if !ok || at < 0 {
				t.Errorf("%q: %v %v", line, list, ok)
			}
		}
	}
}

// A bad byte anywhere in a good line leaves no words of it.
func TestBadByteAnywhere(t *testing.T) {
	line := "let x : int = ( 1+20 ) * abcdefgh  < 1000000"
	if list, ok := impl.TokLine(line); !ok || len(list) != 14 {
		t.Fatal(list, ok)
	}
	for at := range len(line) + 1 {
		for _, bad := range []string{"X", "?", "\t", "\n", "\x00", "\x80", "\xff", "\u00e9", "\u00a0", "\ufffd"} {
			checkNoLine(t, line[:at]+bad+line[at:])
		}
	}
}

func TestWidthOfLines(t *testing.T) {
	for _, unit := range []string{"a ", "1 ", "+", "()", "a1", "abcdefgh ", "1000000x", " ", "\xff", "X"} {
		wide := strings.Repeat(unit, 200)
		list, ok := impl.TokLine(wide[:wideBytes])
		want, fine := cutByPattern(wide[:wideBytes])
		if ok != fine || !slices.Equal(list, want) {
			t.Errorf("%q to the full width: %v %v", unit, list, ok)
		}
		for size := wideBytes + 1; size <= len(wide); size++ {
			checkNoLine(t, wide[:size])
		}
	}
	// What is too wide is so by spaces, too, ahead of a word and behind it.
	gap := strings.Repeat(" ", wideBytes-1)
	checkLine(t, gap+"x", word("x", wideBytes-1))
	checkLine(t, "x"+gap, word("x", 0))
	checkLine(t, gap+"=", mark("=", wideBytes-1))
	checkLine(t, gap[:wideBytes-7]+"1000000", num("1000000", wideBytes-7))
	checkNoLine(t, gap+" x")
	checkNoLine(t, gap+"xy")
	checkNoLine(t, "x "+gap)
	checkNoLine(t, gap+"  ")
	checkNoLine(t, strings.Repeat(" ", 100000))
	checkNoLine(t, strings.Repeat("a", 100000))
}

// The bound of what is reckoned is none of a line: it may be full of words.
func TestManyWordsOfALine(t *testing.T) {
	var want []impl.Tok
	for col := range wideBytes {
		want = append(want, mark("(", col))
	}
	checkLine(t, strings.Repeat("(", wideBytes), want...)
	checkLine(t, strings.Repeat("(", 41), want[:41]...)
}

// Patterns that tell words, and kinds of words, in another way than the program.
var (
	wordPattern  = regexp.MustCompile(`(?s)[a-z]+|[0-9]+|[^ ]`)
	kindPatterns = []*regexp.Regexp{
		regexp.MustCompile(`^[a-z]{1,8}\z`),
		regexp.MustCompile(`^(0|[1-9][0-9]{0,5}|1000000)\z`),
		regexp.MustCompile(`^[-+*<():=]\z`),
	}
)

// cutByPattern is TokLine as the document tells it.
func cutByPattern(line string) ([]impl.Tok, bool) {
	if len(line) > wideBytes {
		return nil, false
	}
	var list []impl.Tok
	for _, span := range wordPattern.FindAllStringIndex(line, -1) {
		s := line[span[0]:span[1]]
		kind := 1 + slices.IndexFunc(kindPatterns, func(p *regexp.Regexp) bool { return p.MatchString(s) })
		if kind == 0 {
			return nil, false
		}
		list = append(list, impl.Tok{Kind: kind, S: s, Col: span[0]})
	}
	return list, true
}

func checkCut(t *testing.T, line string) {
	t.Helper()
	want, fine := cutByPattern(line)
	if list, ok := impl.TokLine(line); ok != fine || !slices.Equal(list, want) {
		t.Fatalf("%q: %v %v, want %v %v", line, list, ok, want, fine)
	}
}

// All lines of up to six bytes of letters, digits, marks, spaces and a byte of no kind.
func TestAllShortLinesAreCutInOneWay(t *testing.T) {
	lines := []string{""}
	for i := 0; i < len(lines); i++ {
		if len(lines[i]) < 6 {
			for _, b := range []string{"a", "0", "1", " ", "=", "-", "?"} {
				lines = append(lines, lines[i]+b)
			}
		}
		checkCut(t, lines[i])
	}
}

// Lines that a fixed rule makes of pieces, so that each piece comes beside each other one.
func TestManyLinesAreCutInOneWay(t *testing.T) {
	pieces := []string{
		"a", "let", "abcdefgh", "abcdefgh", "0", "7", "20", "1000000", "+", "-", "*", "<", "(", ")", ":", "=", "=",
		" ", " ", " ", "  ", "     ", " x ", " 5 ", "abcdefghi", "1000001", "01", "X", "\u00e9", "\xff",
	}
	state := uint32(1)
	next := func() int {
		state = state*1664525 + 1013904223
		return int(state >> 16)
	}
	fine := 0
	for range 60000 {
		var line strings.Builder
		for size := next() % 140; line.Len() < size; {
			pick := next()
			// Most lines have good pieces alone, as one bad piece hides what is made of all others.
			if pick%64 != 0 {
				pick %= len(pieces) - 6
			}
			line.WriteString(pieces[pick%len(pieces)])
		}
		checkCut(t, line.String())
		if _, ok := impl.TokLine(line.String()); ok {
			fine++
		}
	}
	if fine < 5000 || fine > 55000 {
		t.Error("the lines are nearly all of one sort:", fine)
	}
}

// Each word is where it begins, it is of its kind, and between words there are spaces alone.
func TestEachWordIsWhereItBegins(t *testing.T) {
	for _, line := range []string{
		"", " ", "let x:int = 1+20", "  when x<3 say(x+1)as int*2  ", "a1b2c3", strings.Repeat("ab 12+", 20), "print    x",
	} {
		list, ok := impl.TokLine(line)
		if !ok {
			t.Fatalf("%q", line)
		}
		end := 0
		for _, tok := range list {
			if tok.Col < end || line[tok.Col:tok.Col+len(tok.S)] != tok.S || strings.Trim(line[end:tok.Col], " ") != "" {
				t.Errorf("%q: %v", line, tok)
			}
			if !impl.TokOk(tok.Kind, tok.S) || impl.TokKind(tok.S) != tok.Kind {
				t.Errorf("%q: the kind of %v", line, tok)
			}
			end = tok.Col + len(tok.S)
		}
		if strings.Trim(line[end:], " ") != "" {
			t.Errorf("%q: not cut behind %d", line, end)
		}
	}
}

func TestTokTextByHand(t *testing.T) {
	wider := strings.Repeat("w", 5000)
	for _, c := range []struct {
		list []string
		want string
	}{
		{nil, ""},
		{[]string{}, ""},
		{[]string{""}, ""},
		{[]string{"", ""}, " "},
		{[]string{"", "a", ""}, " a "},
		{[]string{"a"}, "a"},
		{[]string{"a", "b"}, "a b"},
		{[]string{"a", "+", "1"}, "a + 1"},
		{[]string{"(", "(", ")"}, "( ( )"},
		{[]string{"let", "x", ":", "int", "=", "2"}, "let x : int = 2"},
		{[]string{" ", " "}, "   "},
		{[]string{"a b", "c\n", "\xff", "\u00e9"}, "a b c\n \xff \u00e9"},
		{[]string{wider, wider}, wider + " " + wider},
	} {
		if got := impl.TokText(c.list); got != c.want {
			t.Errorf("%.40q: %.40q", c.list, got)
		}
	}
}

// What TokText writes of words is cut into the same words, each one byte behind the one ahead.
func TestTextOfWordsIsCutAsItWas(t *testing.T) {
	var all []string
	for s := range goodWords() {
		all = append(all, s)
	}
	slices.Sort(all)
	for from := range all {
		for count := 0; count <= 12; count++ {
			var list []string
			var want []impl.Tok
			col := 0
			for i := range count {
				s := all[(from+i*5)%len(all)]
				list = append(list, s)
				want = append(want, impl.Tok{Kind: goodWords()[s], S: s, Col: col})
				col += len(s) + 1
			}
			checkLine(t, impl.TokText(list), want...)
		}
	}
}

func checkSame(t *testing.T, a []impl.Tok, b []impl.Tok, want bool) {
	t.Helper()
	if impl.TokSame(a, b) != want || impl.TokSame(b, a) != want {
		t.Errorf("%v and %v: want %v", a, b, want)
	}
}

func TestSameLists(t *testing.T) {
	checkSame(t, nil, nil, true)
	checkSame(t, nil, []impl.Tok{}, true)
	checkSame(t, []impl.Tok{}, []impl.Tok{}, true)
	checkSame(t, make([]impl.Tok, 0, 9), nil, true)
	checkSame(t, []impl.Tok{{}}, []impl.Tok{{}}, true)
	checkSame(t, []impl.Tok{word("a", 0)}, []impl.Tok{word("a", 0)}, true)
	// Words need not be ok to be the same.
	odd := impl.Tok{Kind: -7, S: "\xff \x00", Col: math.MinInt}
	checkSame(t, []impl.Tok{odd, odd}, []impl.Tok{odd, odd}, true)
	for _, line := range []string{"", "say x", "let x:int = 1+20", strings.Repeat("(", wideBytes)} {
		a, _ := impl.TokLine(line)
		b, _ := impl.TokLine(line)
		checkSame(t, a, b, true)
	}
}

func TestListsThatAreNotTheSame(t *testing.T) {
	list := []impl.Tok{word("a", 0), mark("+", 2), num("1", 4), word("a", 6)}
	for i := range list {
		for _, other := range []impl.Tok{
			{Kind: list[i].Kind + 1, S: list[i].S, Col: list[i].Col}, {Kind: -list[i].Kind, S: list[i].S, Col: list[i].Col},
			{Kind: list[i].Kind, S: list[i].S + " ", Col: list[i].Col}, {Kind: list[i].Kind, S: "", Col: list[i].Col},
			{Kind: list[i].Kind, S: "b", Col: list[i].Col}, {Kind: list[i].Kind, S: list[i].S, Col: list[i].Col + 1},
			{Kind: list[i].Kind, S: list[i].S, Col: -1}, {Kind: list[i].Kind, S: list[i].S, Col: list[i].Col + 1<<32}, {},
		} {
			changed := slices.Clone(list)
			changed[i] = other
			checkSame(t, list, changed, false)
			checkSame(t, list[:i+1], changed[:i+1], false)
		}
		checkSame(t, list, list[:i], false)
		checkSame(t, list, list[i+1:], false)
		checkSame(t, list, append(slices.Clone(list), list[i]), false)
		checkSame(t, list, append(slices.Clone(list[:i]), list[i+1:]...), false)
	}
	checkSame(t, nil, []impl.Tok{{}}, false)
	checkSame(t, []impl.Tok{{}}, []impl.Tok{{}, {}}, false)
	turned := slices.Clone(list)
	slices.Reverse(turned)
	checkSame(t, list, turned, false)
}

func TestWordsAreNewMemory(t *testing.T) {
	line := "say x + 1"
	first, _ := impl.TokLine(line)
	second, _ := impl.TokLine(line)
	want := slices.Clone(first)
	for i := range first {
		first[i] = impl.Tok{Kind: -1, S: "changed", Col: -i}
	}
	// What is written into the spare room of one answer must not be seen in another one.
	spare := first[:cap(first)]
	for i := range spare {
		spare[i].Col = 99
	}
	// Looked at ahead of the next call, which would set right what both share.
	if len(want) != 4 || !slices.Equal(second, want) {
		t.Error("shared", second)
	}
	if third, ok := impl.TokLine(line); !ok || !slices.Equal(third, want) {
		t.Error("shared", third)
	}
}

func TestWordsAreOnlyLookedAt(t *testing.T) {
	room := []string{"a", "+", "b", "behind"}
	if impl.TokText(room[:3]) != "a + b" || !slices.Equal(room, []string{"a", "+", "b", "behind"}) {
		t.Error("written", room)
	}
	a := []impl.Tok{word("a", 0), num("1", 1), mark("+", 2)}
	b := []impl.Tok{word("a", 0), num("1", 1), mark("-", 2)}
	if !impl.TokSame(a[:2], b[:2]) || a[2] != mark("+", 2) || b[2] != mark("-", 2) {
		t.Error("written", a, b)
	}
}
