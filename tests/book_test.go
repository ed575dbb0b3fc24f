package tests

import (
	"fmt"
	"math"
	"slices"
	"strings"
	"testing"

	"loop.example/interlinear/impl"
)

func samePage(a impl.Page, b impl.Page) bool {
	return a.Line == b.Line && a.Good == b.Good && a.Text == b.Text && slices.Equal(a.From, b.From)
}

func samePages(a []impl.Page, b []impl.Page) bool {
	return slices.EqualFunc(a, b, samePage)
}

// copyPages are the same pages in memory of their own.
func copyPages(b []impl.Page) []impl.Page {
	var all []impl.Page
	for _, page := range b {
		page.From = slices.Clone(page.From)
		all = append(all, page)
	}
	return all
}

// page is that of a line that can be read.
func (e emitting) page() impl.Page {
	return impl.Page{Line: e.line, Good: true, Text: e.bare, From: e.from()}
}

// unreadPage is the page of a line that can not be read.
func unreadPage(line string) impl.Page {
	return impl.Page{Line: line}
}

// unreadLines are lines that can not be read.
func unreadLines() []string {
	return []string{
		" ", "  ", "say", "say ", " say 1", "say  1", "say 1 ", "say ( 1 )", "say 01", "say 1000001", "say 1 say 2", "say let", "let", "let x = 1", "let x : int =", "let int : int = 1", "let x : text = 1", "let x:int=1", "when x", "when x say", "when say 1", "print 1", "x = 1", "if x : print 1", "x", "1", "Say 1", "say 1;", "say abcdefghi", "say x as y", "say 1 < 2 < 3", "say 1 +", "-", "~", "!", "say x as int as",
		strings.Repeat(" ", wideBytes), strings.Repeat("x", wideBytes), strings.Repeat("~", wideBytes),
	}
}

// noLines are texts that are no line, by why they are none.
func noLines() map[string]string {
	all := badTexts()
	all["a newline"] = "\n"
	all["a newline behind"] = "say 1\n"
	all["a newline ahead"] = "\nsay 1"
	all["a newline between"] = "say 1\nsay 2"
	all["a newline for a space"] = "say\n1"
	all["two newlines"] = "\n\n"
	all["a newline behind a wide line"] = strings.Repeat("x", wideBytes) + "\n"
	all["a byte behind a good line"] = "say 1\r"
	all["a byte ahead of a good line"] = "\tsay 1"
	return all
}

// textsOf are the Line, or the Text, of each page, line by line.
func textsOf(b []impl.Page, textOf func(impl.Page) string) string {
	var texts []string
	for _, page := range b {
		texts = append(texts, textOf(page))
	}
	return strings.Join(texts, "\n")
}

func lineOf(page impl.Page) string { return page.Line }

func bareOfPage(page impl.Page) string { return page.Text }

// segsOfPages are whence the words of pages came.
func segsOfPages(b []impl.Page) []impl.Seg {
	var segs []impl.Seg
	for line, page := range b {
		if page.Good {
			segs = append(segs, segsOfLine(line, page.Text, page.From)...)
		}
	}
	return segs
}

func unreadPlaces(b []impl.Page) []int {
	var places []int
	for at, page := range b {
		if !page.Good {
			places = append(places, at)
		}
	}
	return places
}

// checkTold looks at all that is told of a book, whose pages are those that are wanted.
func checkTold(t *testing.T, b []impl.Page, want []impl.Page) {
	t.Helper()
	if !samePages(b, want) {
		t.Errorf("the book is %v, want %v", b, want)
	}
	if !impl.BookOk(b) {
		t.Errorf("not ok: %v", b)
	}
	text, bare, segs := textsOf(want, lineOf), textsOf(want, bareOfPage), segsOfPages(want)
	if got := impl.BookText(b); got != text {
		t.Errorf("the text is %q, want %q", got, text)
	}
	if got := impl.BookBare(b); got != bare {
		t.Errorf("%q is turned into %q, want %q", text, got, bare)
	}
	if got := impl.BookSegs(b); !slices.Equal(got, segs) {
		t.Errorf("the words of %q came from %v, want %v", text, got, segs)
	}
	checkSegs(t, segs)
	if got := impl.BookBad(b); !slices.Equal(got, unreadPlaces(want)) {
		t.Errorf("of %q can not be read %v, want %v", text, got, unreadPlaces(want))
	}
}

// checkBook looks whether all of a book is as it is of the whole text, turned at once.
func checkBook(t *testing.T, b []impl.Page, want []impl.Page) {
	t.Helper()
	checkTold(t, b, want)
	text := textsOf(want, lineOf)
	if got := impl.BookOf(text); !samePages(got, want) {
		t.Errorf("%q is the book %v, want %v", text, got, want)
	}
	p, ok := impl.ProgRead(text)
	if ok != (len(unreadPlaces(want)) == 0) {
		t.Errorf("%q is read: %v", text, ok)
	}
	if ok && (impl.BookBare(b) != impl.EmitText(p) || !slices.Equal(impl.BookSegs(b), impl.EmitSegs(p))) {
		t.Errorf("%q is turned into %q %v, but at once into %q %v", text, impl.BookBare(b), impl.BookSegs(b), impl.EmitText(p), impl.EmitSegs(p))
	}
}

// cutOff is how a book is shown that may have very many pages, or very long ones.
func cutOff(b []impl.Page) string {
	return fmt.Sprintf("%.600q", fmt.Sprint(b))
}

// checkNoBook looks for the fixed answers to what is no book.
func checkNoBook(t *testing.T, why string, b []impl.Page) {
	t.Helper()
	if impl.BookOk(b) {
		t.Errorf("ok, but %s: %s", why, cutOff(b))
	}
	for _, turning := range turnings {
		for _, at := range []int{-1, 0, 1, len(b) - 1, len(b), len(b) + 1} {
			checkBookRefused(t, why, b, turning, at, "say 1")
			checkBookRefused(t, why, b, turning, at, "")
		}
	}
	if text, bare := impl.BookText(b), impl.BookBare(b); text != "" || bare != "" {
		t.Errorf("%s, but %s has the text %q and is turned into %q", why, cutOff(b), text, bare)
	}
	if segs, places := impl.BookSegs(b), impl.BookBad(b); len(segs) != 0 || len(places) != 0 {
		t.Errorf("%s, but of %s is told %v and %v", why, cutOff(b), segs, places)
	}
}

// turnings are the ways to turn a book.
var turnings = []string{"put", "in", "out"}

func turn(b []impl.Page, turning string, at int, line string) ([]impl.Page, bool) {
	switch turning {
	case "put":
		return impl.BookPut(b, at, line)
	case "in":
		return impl.BookIn(b, at, line)
	}
	return impl.BookOut(b, at)
}

// turnPages turns pages as the document tells it, with the page of what is given.
func turnPages(b []impl.Page, turning string, at int, given impl.Page) ([]impl.Page, bool) {
	all := copyPages(b)
	switch {
	case turning == "put" && 0 <= at && at < len(b):
		all[at] = given
		return all, true
	case turning == "in" && 0 <= at && at <= len(b) && len(b) < mostLines:
		return slices.Insert(all, at, given), true
	case turning == "out" && 0 <= at && at < len(b) && len(b) > 1:
		return slices.Delete(all, at, at+1), true
	}
	return nil, false
}

func checkBookRefused(t *testing.T, why string, b []impl.Page, turning string, at int, line string) {
	t.Helper()
	if got, ok := turn(b, turning, at, line); ok || len(got) != 0 {
		t.Errorf("%s, but %s of %.100q at %d is %s %v", why, turning, line, at, cutOff(got), ok)
	}
}

// checkTurnedBook looks what a book is turned into, and that it stays as it was; it tells that book.
func checkTurnedBook(t *testing.T, b []impl.Page, turning string, at int, given impl.Page) ([]impl.Page, bool) {
	t.Helper()
	before := copyPages(b)
	want, ok := turnPages(before, turning, at, given)
	if !ok {
		checkBookRefused(t, "refused", b, turning, at, given.Line)
		return nil, false
	}
	got, fine := turn(b, turning, at, given.Line)
	if !fine {
		t.Errorf("%s of %q at %d is refused of %q", turning, given.Line, at, textsOf(b, lineOf))
	}
	checkBook(t, got, want)
	checkTold(t, b, before)
	return got, true
}

// pagesByHand are some pages: of each Kind, of none, and of lines that can not be read.
func pagesByHand() []impl.Page {
	all := []impl.Page{unreadPage("say"), unreadPage(" "), unreadPage(strings.Repeat("x", wideBytes)), unreadPage("x = 1")}
	for _, e := range []emitting{
		{"", "", ""},
		{
			"let x : int = 2",
			"    0       1 2",
			"x = 2"},
		{
			"say x as int",
			"0   1",
			"print x"},
		{
			"when x < 3 say ( x + 1 ) as int * 2",
			"0    1 2 3 5     7 8 9          b c",
			"if x < 3 : print ( x + 1 ) * 2"},
	} {
		all = append(all, e.page())
	}
	return all
}

func checkPage(t *testing.T, line string, want impl.Page) {
	t.Helper()
	if got := impl.PageOf(line); !samePage(got, want) {
		t.Errorf("the page of %.200q is %s, want %v", line, cutOff([]impl.Page{got}), want)
	}
}

func TestPagesByHand(t *testing.T) {
	for _, want := range pagesByHand() {
		checkPage(t, want.Line, want)
	}
	for _, e := range emittings() {
		checkPage(t, e.line, e.page())
		checkBook(t, []impl.Page{e.page()}, []impl.Page{e.page()})
		// As wide as a line may be, but with spaces that no line has.
		wide := e.line + strings.Repeat(" ", wideBytes-len(e.line))
		checkPage(t, wide, unreadPage(wide))
	}
	for _, line := range unreadLines() {
		checkPage(t, line, unreadPage(line))
		checkBook(t, []impl.Page{unreadPage(line)}, []impl.Page{unreadPage(line)})
	}
	for _, text := range noLines() {
		checkPage(t, text, impl.Page{})
	}
}

func TestPagesOfEachByte(t *testing.T) {
	good := impl.BookOf("say 1\nsay 2")
	for n := range 256 {
		b := string([]byte{byte(n)})
		for _, line := range []string{b, b + b, "say 1" + b, b + "say 1", "say" + b + "1", "say 1 " + b} {
			want := unreadPage(line)
			switch {
			case n < 32 || n > 126:
				want = impl.Page{}
			case '0' <= n && n <= '9' && line == "say 1"+b:
				want = impl.Page{Line: line, Good: true, Text: "print 1" + b, From: []int{0, 4}}
			case n == ' ' && line == "say"+b+"1":
				want = impl.Page{Line: line, Good: true, Text: "print 1", From: []int{0, 4}}
			}
			checkPage(t, line, want)
			if want.Line == "" {
				checkBookRefused(t, "no line", good, "put", 1, line)
				checkBookRefused(t, "no line", good, "in", 1, line)
			} else {
				checkTurnedBook(t, good, "put", 1, want)
				checkTurnedBook(t, good, "in", 1, want)
			}
		}
	}
}

// widePage is that of a line of just so many bytes that can be read.
func widePage(t *testing.T, width int) impl.Page {
	t.Helper()
	s, text := whenOfWidth(t, width)
	w := whenceByRule(s)
	return impl.Page{Line: text, Good: true, Text: strings.Join(w.words, " "), From: w.from}
}

// Of up to 116 bytes a line can be read, of up to 120 it can not, and of more it is none.
func TestPagesOfEachWidth(t *testing.T) {
	b := impl.BookOf("say 1\n\nsay 2")
	for width := widestLine - 3; width <= wideBytes+3; width++ {
		given := []impl.Page{unreadPage(strings.Repeat(" ", width)), unreadPage(strings.Repeat("x", width)), unreadPage("say 1" + strings.Repeat(" ", width-5))}
		_, text := whenOfWidth(t, width)
		if width <= widestLine {
			given = append(given, widePage(t, width))
		} else {
			given = append(given, unreadPage(text))
		}
		for _, page := range given {
			if len(page.Line) != width {
				t.Fatal("width", len(page.Line))
			}
			if width > wideBytes {
				checkPage(t, page.Line, impl.Page{})
				checkNoBook(t, "too wide", []impl.Page{page})
			} else {
				checkPage(t, page.Line, page)
				checkBook(t, []impl.Page{page}, []impl.Page{page})
			}
			for at := range len(b) + 1 {
				for _, turning := range []string{"put", "in"} {
					if width > wideBytes {
						checkBookRefused(t, "too wide", b, turning, at, page.Line)
					} else {
						checkTurnedBook(t, b, turning, at, page)
					}
				}
			}
		}
	}
	// All lines of a book may be so wide.
	for _, page := range []impl.Page{widePage(t, widestLine), unreadPage(strings.Repeat("~", wideBytes))} {
		full := slices.Repeat([]impl.Page{page}, mostLines)
		checkBook(t, impl.BookOf(textsOf(full, lineOf)), full)
		checkTurnedBook(t, full[1:], "in", 3, page)
		checkTurnedBook(t, full, "put", mostLines-1, page)
	}
}

func TestBookOfTheEmptyText(t *testing.T) {
	nothing := emitting{}.page()
	b := impl.BookOf("")
	checkBook(t, b, []impl.Page{nothing})
	// Its page is not nothing, as the empty line can be read.
	if !b[0].Good {
		t.Error(b)
	}
	for _, at := range []int{-1, 0, 1, 2} {
		checkBookRefused(t, "the only one", b, "out", at, "")
		for _, given := range pagesByHand() {
			checkTurnedBook(t, b, "put", at, given)
			checkTurnedBook(t, b, "in", at, given)
		}
	}
}

// The book of the document's example, as the desk turns it.
func TestBookOfTheExample(t *testing.T) {
	b := impl.BookOf("")
	b, _ = impl.BookPut(b, 0, "let x : int = 2")
	b, _ = impl.BookIn(b, 1, "say x as int")
	want := []impl.Page{
		{Line: "let x : int = 2", Good: true, Text: "x = 2", From: []int{4, 12, 14}},
		{Line: "say x as int", Good: true, Text: "print x", From: []int{0, 4}},
	}
	checkBook(t, b, want)
	if text := impl.MapText(impl.BookSegs(b)); text != "aai,eaAb,eae=acNb,mai" {
		t.Error(text)
	}
	b, _ = impl.BookIn(b, 2, "when x < 3 say ( x + 1 ) as int * 2")
	want = append(want, impl.Page{Line: "when x < 3 say ( x + 1 ) as int * 2", Good: true, Text: "if x < 3 : print ( x + 1 ) * 2", From: []int{0, 5, 7, 9, cameNone, 11, cameNone, 17, 19, 21, cameNone, 32, 34}})
	checkBook(t, b, want)
	b, _ = impl.BookIn(b, 3, "say")
	checkBook(t, b, append(want, unreadPage("say")))
	if places := impl.BookBad(b); !slices.Equal(places, []int{3}) {
		t.Error(places)
	}
	if text := impl.BookBare(b); text != "x = 2\nprint x\nif x < 3 : print ( x + 1 ) * 2\n" {
		t.Errorf("%q", text)
	}
}

// Lines that are nothing, and lines of which nothing came, keep their places.
func TestBooksWithLinesOfWhichNothingCame(t *testing.T) {
	for _, c := range []struct {
		text, bare string
		segs       []impl.Seg
		unread     []int
	}{
		{"", "", nil, nil},
		{"\n", "\n", nil, nil},
		{"say", "", nil, []int{0}},
		{"say\n", "\n", nil, []int{0}},
		{"\nsay", "\n", nil, []int{1}},
		{" \n  \n   ", "\n\n", nil, []int{0, 1, 2}},
		{"say 1\n\nsay\nsay x as int", "print 1\n\n\nprint x", []impl.Seg{seg(0, 0, 0, 0), seg(0, 6, 0, 4), seg(3, 0, 3, 0), seg(3, 6, 3, 4)}, []int{2}},
		{"say\n\nsay 1\n ", "\n\nprint 1\n", []impl.Seg{seg(2, 0, 2, 0), seg(2, 6, 2, 4)}, []int{0, 3}},
		{"when x say y\nwhen x\nsay y", "if x : print y\n\nprint y", []impl.Seg{seg(0, 0, 0, 0), seg(0, 3, 0, 5), seg(0, 7, 0, 7), seg(0, 13, 0, 11), seg(2, 0, 2, 0), seg(2, 6, 2, 4)}, []int{1}},
		{strings.Repeat("\n", 15) + "say ( 1 + 2 ) * 3", strings.Repeat("\n", 15) + "print ( 1 + 2 ) * 3", []impl.Seg{seg(15, 0, 15, 0), seg(15, 8, 15, 6), seg(15, 10, 15, 8), seg(15, 12, 15, 10), seg(15, 16, 15, 14), seg(15, 18, 15, 16)}, nil},
		{strings.Repeat("x\n", 15) + "let x : bool = y", strings.Repeat("\n", 15) + "x = y", []impl.Seg{seg(15, 0, 15, 4), seg(15, 2, 15, 13), seg(15, 4, 15, 15)}, []int{0, 1, 2, 3, 4, 5, 6, 7, 8, 9, 10, 11, 12, 13, 14}},
	} {
		b := impl.BookOf(c.text)
		if !impl.BookOk(b) || impl.BookText(b) != c.text || impl.BookBare(b) != c.bare {
			t.Errorf("%q is the book of %q and turned into %q, want %q", c.text, impl.BookText(b), impl.BookBare(b), c.bare)
		}
		if got := impl.BookSegs(b); !slices.Equal(got, c.segs) {
			t.Errorf("the words of %q came from %v, want %v", c.text, got, c.segs)
		}
		if got := impl.BookBad(b); !slices.Equal(got, c.unread) {
			t.Errorf("of %q can not be read %v, want %v", c.text, got, c.unread)
		}
	}
}

// Each line can be read by itself, though no program of them says all: what a line is turned into has nothing to do with the other ones.
func TestLinesAreTurnedByThemselves(t *testing.T) {
	say := emitting{
		"say x as int",
		"0   1",
		"print x"}.page()
	wrong := emitting{
		"let x : int = 1 < 2",
		"    0       1 2 3 4",
		"x = 1 < 2"}.page()
	unread := unreadPage("let x : int =")
	for _, b := range [][]impl.Page{{say}, {wrong, say}, {say, wrong}, {unread, say}, {unread, say, unread}, {say, unread, wrong}} {
		checkBook(t, impl.BookOf(textsOf(b, lineOf)), b)
		for at := range len(b) + 1 {
			for _, given := range []impl.Page{say, wrong, unread} {
				for _, turning := range turnings {
					checkTurnedBook(t, b, turning, at, given)
				}
			}
		}
	}
	if p := progOf(t, "say x as int"); impl.ProgType(p) != 0 {
		t.Error("told")
	}
}

// One that can be read in the place of one that can not, and the other way round.
func TestLinesThatCanBeReadAndNotInThePlaceOfOneAnother(t *testing.T) {
	read := []string{"say 1", "", "let x : int = 1 as int", "when x say x"}
	for _, unread := range unreadLines() {
		for _, line := range read {
			want := []impl.Page{impl.PageOf(line), unreadPage(unread), impl.PageOf(line)}
			b := impl.BookOf(textsOf(want, lineOf))
			checkBook(t, b, want)
			b, _ = checkTurnedBook(t, b, "put", 1, impl.PageOf("say 7"))
			b, _ = checkTurnedBook(t, b, "put", 0, unreadPage(unread))
			b, _ = checkTurnedBook(t, b, "put", 2, unreadPage(unread))
			b, _ = checkTurnedBook(t, b, "put", 1, unreadPage(unread))
			for at := range 3 {
				b, _ = checkTurnedBook(t, b, "put", at, impl.PageOf(line))
			}
			if got := impl.BookText(b); got != line+"\n"+line+"\n"+line || len(impl.BookBad(b)) != 0 {
				t.Errorf("%q", got)
			}
		}
	}
}

// Each way to turn a book of so many lines, at each place there is and is not.
func TestPlacesOfBooks(t *testing.T) {
	pages := pagesByHand()
	for count := 1; count <= mostLines; count++ {
		var b []impl.Page
		for i := range count {
			b = append(b, pages[(i*3+count)%len(pages)])
		}
		checkBook(t, impl.BookOf(textsOf(b, lineOf)), b)
		for at := -3; at <= count+3; at++ {
			for _, turning := range turnings {
				for _, given := range pages {
					checkTurnedBook(t, b, turning, at, given)
				}
			}
		}
		for _, at := range []int{math.MinInt, math.MinInt + 1, -1 << 32, 1 - 1<<32, -256, -count, 100, 255, 256, 257, 1 << 32, 1<<32 + count - 1, 1<<32 + count, math.MaxInt - 1, math.MaxInt} {
			for _, turning := range turnings {
				if at < 0 || at > count {
					checkBookRefused(t, "no such place", b, turning, at, "say 1")
				}
			}
		}
	}
}

func TestHowManyPages(t *testing.T) {
	for _, page := range pagesByHand() {
		b := impl.BookOf(page.Line)
		want := []impl.Page{page}
		for count := 1; count < mostLines; count++ {
			// Behind all.
			next, ok := impl.BookIn(b, count, page.Line)
			want = append(want, page)
			if !ok {
				t.Fatal("refused behind", count)
			}
			checkBook(t, next, want)
			b = next
		}
		for at := -1; at <= mostLines+1; at++ {
			checkBookRefused(t, "a line too many", b, "in", at, "say 1")
			checkBookRefused(t, "a line too many", b, "in", at, page.Line)
			checkTurnedBook(t, b, "put", at, impl.PageOf("say 7"))
		}
		for count := mostLines; count > 1; count-- {
			next, ok := impl.BookOut(b, count-1)
			if !ok {
				t.Fatal("refused of", count)
			}
			checkBook(t, next, want[:count-1])
			b = next
		}
		checkBookRefused(t, "the only one", b, "out", 0, "")
		for _, count := range []int{mostLines + 1, mostLines + 2, 2 * mostLines, 256 + 1, 1000} {
			text := strings.Join(slices.Repeat([]string{page.Line}, count), "\n")
			if got := impl.BookOf(text); len(got) != 0 {
				t.Errorf("a book of %d lines: %v", count, got)
			}
			checkNoBook(t, "too many", slices.Repeat([]impl.Page{page}, count))
		}
		// The one line more may be any one, and at any place.
		for at := range mostLines + 1 {
			for _, more := range []impl.Page{emitting{}.page(), impl.PageOf("say 7"), unreadPage("say")} {
				all := slices.Insert(slices.Repeat([]impl.Page{page}, mostLines), at, more)
				if got := impl.BookOf(textsOf(all, lineOf)); len(got) != 0 {
					t.Errorf("a book of a line too many: %v", got)
				}
				checkNoBook(t, "too many", all)
			}
		}
	}
	for _, none := range [][]impl.Page{nil, {}, make([]impl.Page, 0, 5)} {
		checkNoBook(t, "no line", none)
	}
	// Room behind the pages does not count.
	room := append(slices.Repeat([]impl.Page{impl.PageOf("say 1")}, mostLines), impl.PageOf("say x"), impl.Page{Line: "\n"})
	checkTold(t, room[:1], room[:1])
	checkTold(t, room[:mostLines], room[:mostLines])
	checkNoBook(t, "too many", room[:mostLines+1])
	checkNoBook(t, "no line", room[:0])
}

func TestBooksOfTexts(t *testing.T) {
	for text, lines := range goodTexts() {
		if len(lines) > mostLines {
			if got := impl.BookOf(text); len(got) != 0 {
				t.Errorf("a book of %d lines: %v", len(lines), got)
			}
			continue
		}
		var want []impl.Page
		for _, line := range lines {
			want = append(want, impl.PageOf(line))
		}
		checkBook(t, impl.BookOf(text), want)
	}
	for why, text := range badTexts() {
		for _, one := range []string{text, "say 1\n" + text, text + "\nsay 1", "\n" + text} {
			if got := impl.BookOf(one); len(got) != 0 {
				t.Errorf("%s, but a book: %v", why, got)
			}
		}
	}
	if got := impl.BookOf("\n\n"); !samePages(got, slices.Repeat([]impl.Page{emitting{}.page()}, 3)) {
		t.Error(got)
	}
}

// What is given is no line, at each place: also where no line would be turned, or there is no such place.
func TestWhatIsGivenIsNoLine(t *testing.T) {
	for why, text := range noLines() {
		for _, b := range [][]impl.Page{impl.BookOf(""), impl.BookOf("say 1\nsay\n\nwhen x say x"), impl.BookOf(strings.Repeat("\n", mostLines-1))} {
			before := copyPages(b)
			for at := -1; at <= len(b)+1; at++ {
				checkBookRefused(t, why, b, "put", at, text)
				checkBookRefused(t, why, b, "in", at, text)
			}
			checkTold(t, b, before)
		}
	}
}

// A changedPage is a page that is not that of its line, and how it came to be so.
type changedPage struct {
	how string
	impl.Page
}

// changedPages differ from a page that is ok in one part alone.
func changedPages(page impl.Page) []changedPage {
	var all []changedPage
	alone := func(how string, change func(*impl.Page)) {
		other := page
		other.From = slices.Clone(page.From)
		change(&other)
		all = append(all, changedPage{how, other})
	}
	for why, text := range noLines() {
		alone("Line with "+why, func(o *impl.Page) { o.Line = text })
	}
	alone("not Good, or Good", func(o *impl.Page) { o.Good = !o.Good })
	for _, more := range []string{" ", "x", "\n", "\t"} {
		alone("Text with more behind", func(o *impl.Page) { o.Text += more })
		alone("Text with more ahead", func(o *impl.Page) { o.Text = more + o.Text })
		// Of a line that can not be read all else is the same as of another one that can not.
		if page.Good {
			alone("Line with more behind", func(o *impl.Page) { o.Line += more })
			alone("Line with more ahead", func(o *impl.Page) { o.Line = more + o.Line })
		}
	}
	for _, n := range []int{cameNone, 0, len(page.Line), math.MinInt, math.MaxInt} {
		alone("From too long", func(o *impl.Page) { o.From = append(o.From, n) })
		alone("From with one ahead", func(o *impl.Page) { o.From = append([]int{n}, o.From...) })
	}
	for i := range page.From {
		for _, by := range []int{1, -1, 2, -2, 256, -256, 1 << 32, math.MinInt} {
			alone("one of From changed", func(o *impl.Page) { o.From[i] += by })
		}
	}
	if page.Line != "" {
		alone("no Line", func(o *impl.Page) { o.Line = "" })
	}
	if page.Text != "" {
		alone("Line cut off", func(o *impl.Page) { o.Line = o.Line[:len(o.Line)-1] })
		alone("Text cut off", func(o *impl.Page) { o.Text = o.Text[:len(o.Text)-1] })
		alone("no Text", func(o *impl.Page) { o.Text = "" })
		alone("Line as Text", func(o *impl.Page) { o.Text = o.Line })
		alone("From cut off", func(o *impl.Page) { o.From = o.From[:len(o.From)-1] })
		alone("From without its first", func(o *impl.Page) { o.From = o.From[1:] })
		alone("no From", func(o *impl.Page) { o.From = nil })
		alone("From twice", func(o *impl.Page) { o.From = append(o.From, o.From...) })
		alone("From turned round", func(o *impl.Page) { slices.Reverse(o.From) })
		alone("neither Text nor From", func(o *impl.Page) { o.Text, o.From = "", nil })
		alone("nothing but Line", func(o *impl.Page) { o.Good, o.Text, o.From = false, "", nil })
	}
	return all
}

func TestPagesThatAreNotOk(t *testing.T) {
	ok := impl.BookOf("say 1\n\nsay")
	count := 0
	for _, page := range pagesByHand() {
		for _, changed := range changedPages(page) {
			checkNoBook(t, changed.how, []impl.Page{changed.Page})
			for at := range len(ok) + 1 {
				checkNoBook(t, changed.how, slices.Insert(slices.Clone(ok), at, changed.Page))
			}
			full := slices.Repeat([]impl.Page{page}, mostLines)
			full[count%mostLines] = changed.Page
			checkNoBook(t, changed.how, full)
			count++
		}
	}
	if count < 300 {
		t.Error("few pages:", count)
	}
	checkNoBook(t, "nothing, but not the page of a line", []impl.Page{{}})
	// The page of another line, and the pages of two lines with their parts swapped.
	a, b := impl.PageOf("say 1"), impl.PageOf("say 2")
	a.Line, b.Line = b.Line, a.Line
	checkNoBook(t, "Lines swapped", []impl.Page{a, b})
	// An empty list and the nil list are the same, and what stands behind the end does not count.
	same := impl.PageOf("say 1")
	same.From = append(slices.Clone(same.From), 9, 9)[:len(same.From)]
	nothing, unread := emitting{}.page(), unreadPage("say")
	nothing.From, unread.From = []int{}, make([]int, 0, 3)
	checkBook(t, []impl.Page{same, nothing, unread}, impl.BookOf("say 1\n\nsay"))
	for _, turning := range turnings {
		checkTurnedBook(t, []impl.Page{same, nothing, unread}, turning, 1, impl.PageOf("say x"))
	}
}

// Lines that are the same are turned one by one.
func TestBooksOfLinesThatAreTheSame(t *testing.T) {
	for _, page := range pagesByHand() {
		other := impl.PageOf("say 7 as int")
		b := impl.BookOf(page.Line + "\n" + page.Line + "\n" + page.Line)
		checkBook(t, b, []impl.Page{page, page, page})
		for at := range 3 {
			one, _ := checkTurnedBook(t, b, "put", at, other)
			back, _ := checkTurnedBook(t, one, "put", at, page)
			if !samePages(back, b) {
				t.Errorf("%v is not as it was: %v", b, back)
			}
			one, _ = checkTurnedBook(t, b, "in", at, page)
			back, _ = checkTurnedBook(t, one, "out", at, page)
			if !samePages(back, b) {
				t.Errorf("%v is not as it was: %v", b, back)
			}
			checkTurnedBook(t, b, "put", at, page)
		}
	}
}
