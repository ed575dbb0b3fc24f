package tests

import (
	"fmt"
	"slices"
	"strconv"
	"strings"
	"testing"

	"loop.example/interlinear/impl"
)

// pageByRule is the page of a line that is ok, as the document tells it.
func pageByRule(s impl.Stmt) impl.Page {
	w := whenceByRule(s)
	return impl.Page{Line: lineByRule(s), Good: true, Text: strings.Join(w.words, " "), From: w.from}
}

// unreadPage makes the page of a line that can not be read: one of those by hand, or one with a space too many.
func (s *steps) unreadPage() impl.Page {
	lines := unreadLines()
	if s.below(3) == 0 {
		return unreadPage(lines[s.below(len(lines))])
	}
	line := lineByRule(s.narrowLine())
	at := s.below(len(line) + 1)
	return unreadPage(line[:at] + " " + line[at:])
}

// page makes one of a line; so many in a hundred can not be read.
func (s *steps) page(unread int) impl.Page {
	if s.below(100) < unread {
		return s.unreadPage()
	}
	return pageByRule(s.narrowLine())
}

func (s *steps) pages(count int, unread int) []impl.Page {
	var all []impl.Page
	for range count {
		all = append(all, s.page(unread))
	}
	return all
}

func TestManyPagesByRule(t *testing.T) {
	s := steps(167)
	kinds, unread, none := map[string]int{}, 0, 0
	for range 20000 {
		page := s.page(30)
		checkPage(t, page.Line, page)
		first, _, _ := strings.Cut(page.Text, " ")
		kinds[first]++
		if !page.Good {
			unread++
		}
		none += len(page.From) - len(slices.DeleteFunc(page.From, func(n int) bool { return n == cameNone }))
		if t.Failed() {
			return
		}
	}
	if kinds["print"] < 2000 || kinds["if"] < 2000 || kinds["x"] < 500 || unread < 3000 || none < 5000 {
		t.Error("the pages are nearly all of one sort:", kinds, unread, none)
	}
}

func TestManyBooksByRule(t *testing.T) {
	s := steps(173)
	counts, unread := map[int]int{}, map[int]int{}
	for i := range 1200 {
		want := s.pages(1+s.below(mostLines), []int{0, 20, 50, 100}[i%4])
		checkBook(t, impl.BookOf(textsOf(want, lineOf)), want)
		counts[len(want)]++
		unread[len(unreadPlaces(want))]++
		if t.Failed() {
			return
		}
	}
	if counts[1] < 30 || counts[mostLines] < 30 || unread[0] < 250 || unread[1] < 50 || unread[mostLines] < 10 {
		t.Error("the books are nearly all of one sort:", counts, unread)
	}
}

// All books of up to three lines of a few, each turned in each way at each place.
func TestAllSmallBooksAreTurned(t *testing.T) {
	lines := []impl.Page{emitting{}.page(), pageByRule(say(as(name("x"), "int"))), pageByRule(let("x", "int", number(2))), unreadPage("say"), unreadPage(" ")}
	var try func(want []impl.Page)
	try = func(want []impl.Page) {
		if len(want) > 0 {
			b := impl.BookOf(textsOf(want, lineOf))
			checkBook(t, b, want)
			for at := -1; at <= len(want)+1; at++ {
				for _, turning := range turnings {
					for _, given := range lines {
						checkTurnedBook(t, b, turning, at, given)
					}
				}
			}
		}
		if len(want) < 3 && !t.Failed() {
			for _, page := range lines {
				try(append(slices.Clone(want), page))
			}
		}
	}
	try(nil)
}

// A version of a book, and the pages that it had when it was made.
type version struct{ b, want []impl.Page }

// Whatever lines are put in, in the place of others, or taken away, one behind the other: all is as it is of the whole text, and each book stays as it was.
func TestBooksAreTurnedOneBehindTheOther(t *testing.T) {
	s := steps(179)
	done, refused, counts, unread := map[string]int{}, map[string]int{}, map[int]int{}, map[bool]int{}
	for i := range 100 {
		want := s.pages(1+s.below(mostLines), 30)
		if i%3 == 0 {
			want = []impl.Page{emitting{}.page()}
		}
		versions := []version{{impl.BookOf(textsOf(want, lineOf)), want}}
		for range 45 {
			// Mostly the newest one is turned, but a book may be turned more than once.
			from := versions[len(versions)-1]
			if s.below(8) == 0 {
				from = versions[s.below(len(versions))]
			}
			turning := turnings[s.below(3)]
			if s.below(3) == 0 {
				turning = turnings[1+i%2]
			}
			at, given := s.below(len(from.b)+4)-1, s.page(25)
			got, ok := checkTurnedBook(t, from.b, turning, at, given)
			if !ok {
				refused[turning]++
				continue
			}
			want, _ := turnPages(from.want, turning, at, given)
			versions = append(versions, version{got, want})
			done[turning]++
			counts[len(got)]++
			unread[len(unreadPlaces(want)) > 0]++
		}
		for _, one := range versions {
			if !samePages(one.b, one.want) {
				t.Fatalf("a book does not stay as it was: %v, want %v", one.b, one.want)
			}
		}
		if t.Failed() {
			return
		}
	}
	for _, turning := range turnings {
		if done[turning] < 300 || refused[turning] < 100 {
			t.Error("nearly all are turned in one way:", done, refused)
		}
	}
	if counts[1] < 30 || counts[2] < 30 || counts[mostLines] < 100 || unread[true] < 500 || unread[false] < 200 {
		t.Error("the books are nearly all of one sort:", counts, unread)
	}
}

// A text is made from the empty one, line by line, in any order, and taken away again.
func TestBooksAreMadeInAnyOrder(t *testing.T) {
	s := steps(181)
	for range 60 {
		want := s.pages(2+s.below(mostLines-1), 20)
		b := impl.BookOf("")
		// The places of want that are in the book, in order.
		var in []int
		left := []int{}
		for at := range want {
			left = append(left, at)
		}
		for len(left) > 0 {
			i := s.below(len(left))
			one := left[i]
			left = slices.Delete(left, i, i+1)
			at, _ := slices.BinarySearch(in, one)
			turning := "in"
			if len(in) == 0 {
				turning = "put"
			}
			b, _ = checkTurnedBook(t, b, turning, at, want[one])
			in = slices.Insert(in, at, one)
		}
		checkBook(t, b, want)
		for len(b) > 1 && !t.Failed() {
			at := s.below(len(b))
			b, _ = checkTurnedBook(t, b, "out", at, impl.Page{})
			want = slices.Delete(slices.Clone(want), at, at+1)
		}
		checkBook(t, b, want)
		if t.Failed() {
			return
		}
	}
}

// readPage is the page of a line that can be read; all nothing, if what is told of any other is as it must be.
func readPage(text string) (impl.Page, bool) {
	page := impl.PageOf(text)
	if !page.Good && page.Line == text {
		page.Line = ""
	}
	return page, page.Good
}

// All short rows of words, and all short texts of a small alphabet: the pages of those that are the text of a line, and of no others, are Good.
func TestPagesOfAllShortTexts(t *testing.T) {
	pagesOf := func(lines map[string]impl.Stmt) map[string]impl.Page {
		all := map[string]impl.Page{}
		for text, s := range lines {
			all[text] = pageByRule(s)
		}
		return all
	}
	readPages := reading[impl.Page]{readPage, samePage}
	leaves := []impl.Expr{number(1), name("x")}
	readPages.checkAllTexts(t, 6, []string{"let", "x", ":", "int", "=", "1", "say", "when"}, " ", pagesOf(allLines([][]impl.Expr{leaves}, []string{"x"}, []string{"int"})))
	readPages.checkAllTexts(t, 7, []string{"say", "(", ")", "x", "*", "-"}, " ", pagesOf(allLines(partsOfSize(7, leaves[1:], []string{"*", "-"}, nil), nil, nil)))
	// Names and numbers of up to five pieces, behind the one word and the one space.
	said := map[string]impl.Stmt{"": {}}
	var grow func(word string, left int, pieces ...string)
	grow = func(word string, left int, pieces ...string) {
		if n, err := strconv.Atoi(word); err == nil {
			said["say "+word] = say(number(n))
		} else if word != "" && word != "say" && len(word) <= 8 {
			said["say "+word] = say(name(word))
		}
		for _, piece := range pieces {
			if left > 0 {
				grow(word+piece, left-1, pieces...)
			}
		}
	}
	grow("", 5, "say", "x")
	grow("", 5, "1")
	readPages.checkAllTexts(t, 7, []string{"say", "x", " ", "1"}, "", pagesOf(said))
}

// Texts that differ in a byte from that of a book: each of their lines is a page by itself, or they are no book.
func TestChangedTextsOfBooks(t *testing.T) {
	s := steps(191)
	read, unread, noBooks := 0, 0, 0
	look := func(text string) {
		lines := strings.Split(text, "\n")
		none := len(lines) > mostLines || strings.ContainsAny(text, "\t\xff")
		var want []impl.Page
		for _, line := range lines {
			page := unreadPage(line)
			if p, ok := impl.StmtRead(line); ok {
				page = pageByRule(p)
			}
			want = append(want, page)
			none = none || len(line) > wideBytes
		}
		if none {
			noBooks++
			if got := impl.BookOf(text); len(got) != 0 {
				t.Errorf("%q is the book %v", text, got)
			}
			return
		}
		checkBook(t, impl.BookOf(text), want)
		if len(unreadPlaces(want)) > 0 {
			unread++
		} else {
			read++
		}
	}
	for i := range 8 {
		text := textsOf(s.pages([]int{1, 2, 4, mostLines}[i%4], 0), lineOf)
		// Of a long text not each place is changed.
		for at := i; at <= len(text); at += 1 + len(text)/150 {
			for _, b := range []string{"\n", " ", "x", "1", "\t", "\xff"} {
				look(text[:at] + b + text[at:])
			}
			look(text[:at])
			look(text[at:])
			if at < len(text) {
				look(text[:at] + text[at+1:])
			}
		}
		if t.Failed() {
			return
		}
	}
	if read < 200 || unread < 2000 || noBooks < 200 {
		t.Error("the texts are nearly all of one sort:", read, unread, noBooks)
	}
}

// allRoomOf writes out pages with all that is in the room behind them, and behind each From.
func allRoomOf(b []impl.Page) string {
	var text strings.Builder
	for _, page := range b[:cap(b)] {
		fmt.Fprintf(&text, "%q %v %q %v %d\n", page.Line, page.Good, page.Text, page.From[:cap(page.From)], len(page.From))
	}
	return text.String()
}

// roomy are the same pages with room behind them and behind each From, and marks in it.
func roomy(b []impl.Page) []impl.Page {
	room := []impl.Page{}
	for _, page := range append(slices.Clone(b), impl.PageOf("say behind"), impl.Page{Line: "behind", Good: true, From: []int{3}}) {
		page.From = append(slices.Clone(page.From), -7, 0, -9)[:len(page.From)]
		room = append(room, page)
	}
	return room[:len(b)]
}

func TestBooksAreOnlyLookedAt(t *testing.T) {
	s := steps(193)
	var all [][]impl.Page
	for range 100 {
		all = append(all, roomy(s.pages(1+s.below(mostLines+2), 20)))
	}
	for _, page := range pagesByHand() {
		for _, changed := range changedPages(page) {
			all = append(all, roomy([]impl.Page{impl.PageOf("say 1"), changed.Page, unreadPage("say")}))
		}
	}
	for _, b := range all {
		before := allRoomOf(b)
		impl.BookOk(b)
		impl.BookText(b)
		impl.BookBare(b)
		impl.BookSegs(b)
		impl.BookBad(b)
		for at := -1; at <= len(b)+1; at++ {
			for _, turning := range turnings {
				for _, line := range []string{"say 7", "", "say", "say\n"} {
					turn(b, turning, at, line)
				}
			}
		}
		if allRoomOf(b) != before {
			t.Fatalf("written into %v", b)
		}
	}
}

// overwritePages writes into pages, into each From, and into the room behind all of these.
func overwritePages(b []impl.Page) {
	for _, page := range b[:cap(b)] {
		overwrite(page.From, -7)
	}
	overwrite(b, impl.Page{Line: "overwritten", From: []int{-7}})
}

// checkFromsApart looks whether no two From share memory, room included.
func checkFromsApart(t *testing.T, b []impl.Page) {
	t.Helper()
	for i, page := range b {
		room := page.From[:cap(page.From)]
		before := slices.Clone(room)
		for j, other := range b {
			if j == i {
				continue
			}
			seen := slices.Clone(other.From[:cap(other.From)])
			overwrite(room, -7)
			same := slices.Equal(other.From[:cap(other.From)], seen)
			copy(room, before)
			if !same {
				t.Fatalf("From of %d and of %d share memory: %v", i, j, b)
			}
		}
	}
}

// What is written into an answer, and into the room behind it, is seen in no argument and in no other answer, looked at ahead of the next call, which would set right what both share.
func TestBooksAreNewMemory(t *testing.T) {
	s := steps(197)
	for range 150 {
		want := s.pages(1+s.below(mostLines), 20)
		text := textsOf(want, lineOf)
		one, other := impl.BookOf(text), impl.BookOf(text)
		checkFromsApart(t, append(slices.Clone(one), other...))
		overwritePages(one)
		if !samePages(other, want) {
			t.Fatalf("%q is turned in shared memory: %v", text, other)
		}
		for _, page := range want {
			one, other := impl.PageOf(page.Line), impl.PageOf(page.Line)
			overwrite(one.From, -7)
			if !samePage(other, page) {
				t.Fatalf("%q is turned in shared memory: %v", page.Line, other)
			}
		}
		b := roomy(want)
		before := allRoomOf(b)
		segs, again := impl.BookSegs(b), impl.BookSegs(b)
		overwrite(segs, seg(-7, -7, -7, -7))
		places, more := impl.BookBad(b), impl.BookBad(b)
		overwrite(places, -7)
		if !slices.Equal(again, segsOfPages(want)) || !slices.Equal(more, unreadPlaces(want)) || allRoomOf(b) != before {
			t.Fatalf("of %q is told in shared memory: %v %v", text, again, more)
		}
		for _, turning := range turnings {
			for at := range len(b) + 1 {
				given := s.page(20)
				turned, ok := turnPages(want, turning, at, given)
				if !ok {
					continue
				}
				one, _ := turn(b, turning, at, given.Line)
				other, _ := turn(b, turning, at, given.Line)
				checkFromsApart(t, append(slices.Clone(one), other...))
				checkFromsApart(t, append(slices.Clone(one), b...))
				overwritePages(one)
				if !samePages(other, turned) || allRoomOf(b) != before {
					t.Fatalf("%s of %q at %d of %q is told in shared memory: %v", turning, given.Line, at, text, other)
				}
			}
		}
		// An answer stays as it was also where the argument is written into.
		last, _ := impl.BookIn(b[:1], 1, "say 7")
		overwritePages(b)
		if !samePages(last, []impl.Page{want[0], impl.PageOf("say 7")}) {
			t.Fatalf("an answer shares memory with the argument: %v", last)
		}
	}
}

// A book whose pages share one From is ok, but no answer shares any.
func TestBooksThatShareMemory(t *testing.T) {
	for _, line := range []string{"say x as int", "when x < 3 say ( x + 1 ) as int * 2", "let x : int = 2"} {
		page := impl.PageOf(line)
		b := slices.Repeat([]impl.Page{page}, 5)
		for at := range len(b) + 1 {
			for _, turning := range turnings {
				got, ok := checkTurnedBook(t, b, turning, at, page)
				if ok {
					checkFromsApart(t, append(slices.Clone(got), page))
				}
			}
		}
	}
	// Of lines that are the same each has memory of its own, too.
	checkFromsApart(t, impl.BookOf(strings.Join(slices.Repeat([]string{"say x as int"}, mostLines), "\n")))
}

// Each function answers also where lines have hardly an end, and where there are very many.
func TestBooksWithoutAnEnd(t *testing.T) {
	good := impl.BookOf("say 1\nsay")
	for _, piece := range []string{"x", " ", "\n", "say 1\n", "\xff", "say 1 + "} {
		long := strings.Repeat(piece, 1000000)
		checkPage(t, long, impl.Page{})
		if got := impl.BookOf(long); len(got) != 0 {
			t.Errorf("a book of many of %q", piece)
		}
		checkNoBook(t, "very long", []impl.Page{{Line: long}})
		checkNoBook(t, "very long", []impl.Page{{Text: long, Good: true}})
		for at := range 3 {
			checkBookRefused(t, "very long", good, "put", at, long)
			checkBookRefused(t, "very long", good, "in", at, long)
		}
	}
	checkNoBook(t, "very many", make([]impl.Page, 1000000))
	checkNoBook(t, "very many", slices.Repeat(good, 500000))
	page := impl.PageOf("say 1")
	page.From = make([]int, 1000000)
	checkNoBook(t, "From very long", []impl.Page{page})
}

// No call keeps anything for the next one.
func TestBooksKeepNothing(t *testing.T) {
	all := pagesByHand()
	for range 3 {
		for i, page := range all {
			other := all[len(all)-1-i]
			b := []impl.Page{page, other}
			checkBook(t, b, copyPages(b))
			checkNoBook(t, "no page", []impl.Page{page, {Line: "say 1"}})
			checkPage(t, "say\n1", impl.Page{})
			checkPage(t, other.Line, other)
			checkTurnedBook(t, b, "put", 0, other)
			checkBookRefused(t, "no such place", b, "in", 3, other.Line)
			checkBook(t, b[1:], copyPages(b[1:]))
			checkPage(t, page.Line, page)
		}
	}
}
