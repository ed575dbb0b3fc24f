package tests

import (
	"fmt"
	"slices"
	"strconv"
	"strings"
	"testing"

	"loop.example/interlinear/impl"
)

// How tight marks hold, and how tight their kids must hold, as the document lists them.
var (
	holds      = map[string]int{"<": 1, "+": 2, "-": 2, "*": 3}
	firstMust  = map[string]int{"<": 2, "+": 2, "-": 2, "*": 3}
	secondMust = map[string]int{"<": 2, "+": 3, "-": 3, "*": 4}
)

// wordsByTable is ExprWords as the document tells it, of a part that is ok and must hold so tight.
func wordsByTable(e impl.Expr, must int) string {
	switch e.Kind {
	case numberKind:
		return strconv.Itoa(e.N)
	case nameKind:
		return e.S
	case asKind:
		return wordsByTable(e.Kids[0], 4) + " as " + e.S
	}
	text := wordsByTable(e.Kids[0], firstMust[e.S]) + " " + e.S + " " + wordsByTable(e.Kids[1], secondMust[e.S])
	if holds[e.S] < must {
		return "( " + text + " )"
	}
	return text
}

// sizeAndDepth counts parts, and how many are at most around one another.
func sizeAndDepth(e impl.Expr) (int, int) {
	size, depth := 1, 0
	for _, kid := range e.Kids {
		kidSize, kidDepth := sizeAndDepth(kid)
		size += kidSize
		depth = max(depth, kidDepth)
	}
	return size, depth + 1
}

func bareByRule(e impl.Expr) impl.Expr {
	for e.Kind == asKind {
		e = e.Kids[0]
	}
	if e.Kind == twoKind {
		return two(bareByRule(e.Kids[0]), e.S, bareByRule(e.Kids[1]))
	}
	return e
}

// typeByRule and sumByRule take what is told of names as maps, in which the last of a name has been put last.
func typeByRule(e impl.Expr, told map[string]string) string {
	switch e.Kind {
	case numberKind:
		return "int"
	case nameKind:
		return told[e.S]
	case asKind:
		if typeByRule(e.Kids[0], told) != "" {
			return e.S
		}
		return ""
	}
	if typeByRule(e.Kids[0], told)+typeByRule(e.Kids[1], told) != "intint" {
		return ""
	}
	if e.S == "<" {
		return "bool"
	}
	return "int"
}

func sumByRule(e impl.Expr, told map[string]int) (int, bool) {
	switch e.Kind {
	case numberKind:
		return e.N, true
	case nameKind:
		n, ok := told[e.S]
		return min(max(n, -mostNumber), mostNumber), ok
	case asKind:
		return sumByRule(e.Kids[0], told)
	}
	a, ok := sumByRule(e.Kids[0], told)
	b, fine := sumByRule(e.Kids[1], told)
	if !ok || !fine {
		return 0, false
	}
	less := 0
	if a < b {
		less = 1
	}
	n := map[string]int{"+": a + b, "-": a - b, "*": a * b, "<": less}[e.S]
	return min(max(n, -mostNumber), mostNumber), true
}

// partsOfSize are all parts that are made of these, listed by their size, from 0 on.
func partsOfSize(most int, leaves []impl.Expr, marks []string, types []string) [][]impl.Expr {
	all := make([][]impl.Expr, most+1)
	all[1] = leaves
	for size := 2; size <= most; size++ {
		for _, kid := range all[size-1] {
			for _, typeName := range types {
				all[size] = append(all[size], as(kid, typeName))
			}
		}
		for left := 1; left < size-1; left++ {
			for _, first := range all[left] {
				for _, second := range all[size-1-left] {
					for _, mark := range marks {
						all[size] = append(all[size], two(first, mark, second))
					}
				}
			}
		}
	}
	return all
}

// All parts of up to seven are written as the document tells, each in its own way, and read as they were.
func TestAllSmallPartsAreReadAsTheyWere(t *testing.T) {
	seen := map[string]bool{}
	for _, parts := range partsOfSize(7, []impl.Expr{number(1), name("x")}, []string{"+", "-", "*", "<"}, []string{"int"}) {
		for _, e := range parts {
			if _, depth := sizeAndDepth(e); depth > mostAround+1 {
				checkNotOk(t, e)
				continue
			}
			text := wordsByTable(e, 0)
			if seen[text] {
				t.Fatalf("two parts have the words %q", text)
			}
			seen[text] = true
			checkWords(t, e, text)
		}
	}
	if len(seen) < 10000 {
		t.Error("few parts:", len(seen))
	}
}

// checkAllLists reads all lists of up to so many words: those that some part has, and no others, are read.
func checkAllLists(t *testing.T, most int, words []string, parts [][]impl.Expr) {
	t.Helper()
	want := map[string]impl.Expr{}
	for _, ones := range parts {
		for _, e := range ones {
			if _, depth := sizeAndDepth(e); depth <= mostAround+1 {
				want[wordsByTable(e, 0)] = e
			}
		}
	}
	read := 0
	var try func(list []string)
	try = func(list []string) {
		e, ok := impl.ExprRead(list)
		other, there := want[strings.Join(list, " ")]
		if ok != there || !sameTree(e, other) {
			t.Fatalf("%q is read as %v %v, want %v %v", list, e, ok, other, there)
		}
		if ok {
			read++
		}
		if len(list) < most {
			for _, word := range words {
				try(append(list, word))
			}
		}
	}
	try(make([]string, 0, most))
	if read < 20 {
		t.Error("few lists are read:", read)
	}
}

func TestAllShortListsOfWords(t *testing.T) {
	leaves := []impl.Expr{number(1), name("x")}
	checkAllLists(t, 5, []string{"1", "x", "+", "-", "*", "<", "(", ")", "as", "int", "bool", "let", "="},
		partsOfSize(5, leaves, []string{"+", "-", "*", "<"}, []string{"int", "bool"}))
	checkAllLists(t, 7, []string{"x", "*", "<", "(", ")", "as", "int"},
		partsOfSize(7, leaves[1:], []string{"*", "<"}, []string{"int"}))
	checkAllLists(t, 9, []string{"x", "-", "<", "(", ")"},
		partsOfSize(9, leaves[1:], []string{"-", "<"}, nil))
}

// A steps tells numbers by a fixed rule, so that each run of the tests has the same ones.
type steps uint32

func (s *steps) below(n int) int {
	*s = *s*1664525 + 1013904223
	return int(*s>>16) % n
}

// grow makes a part of just so many parts, if so many levels have room for them, and of as many as they have else.
func (s *steps) grow(size int, levels int) impl.Expr {
	room := 1<<(levels-1) - 1
	size = min(size, 2*room+1)
	switch {
	case size == 1 && s.below(2) == 0:
		return number([]int{0, 1, 2, 7, 1000, 999999, mostNumber}[s.below(7)])
	case size == 1:
		return name([]string{"x", "y", "b", "z", "longname"}[s.below(5)])
	case size == 2 || size-1 <= room && s.below(3) == 0:
		return as(s.grow(size-1, levels-1), []string{"int", "bool"}[s.below(2)])
	}
	least, most := max(1, size-1-room), min(size-2, room)
	left := least + s.below(most-least+1)
	return two(s.grow(left, levels-1), []string{"+", "-", "*", "<"}[s.below(4)], s.grow(size-1-left, levels-1))
}

// told is what is told of some names, as lists in which names are told more than once, and as maps.
func (s *steps) told() (names []string, types []string, nums []int, typeOf map[string]string, numOf map[string]int) {
	typeOf, numOf = map[string]string{}, map[string]int{}
	for range s.below(9) {
		name := []string{"x", "y", "b", "z", "longname", "let"}[s.below(6)]
		typeName := []string{"int", "int", "int", "bool"}[s.below(4)]
		n := []int{0, 1, -1, 3, 1000, -1001, mostNumber, -mostNumber, 2 * mostNumber, -5 * mostNumber}[s.below(10)]
		names, types, nums = append(names, name), append(types, typeName), append(nums, n)
		typeOf[name], numOf[name] = typeName, n
	}
	return
}

// checkAll holds all that the program tells of a part that is ok against what the document tells of it.
func checkAll(t *testing.T, e impl.Expr, s *steps) {
	t.Helper()
	names, types, nums, typeOf, numOf := s.told()
	checkWords(t, e, wordsByTable(e, 0))
	bare := impl.ExprBare(e)
	if !sameTree(bare, bareByRule(e)) || !impl.ExprOk(bare) {
		t.Errorf("%v is bare %v", e, bare)
	}
	checkType(t, e, names, types, typeByRule(e, typeOf))
	for _, one := range []impl.Expr{e, bare} {
		if want, ok := sumByRule(e, numOf); ok {
			checkOf(t, one, names, nums, want)
		} else {
			checkNotReckoned(t, one, names, nums)
		}
	}
}

func TestManyPartsByRule(t *testing.T) {
	s := steps(7)
	sizes, depths, typed, summed := map[int]int{}, map[int]int{}, 0, 0
	for range 40000 {
		e := s.grow(1+s.below(15), 2+s.below(6))
		size, depth := sizeAndDepth(e)
		sizes[size]++
		depths[depth]++
		if size > mostParts || depth > mostAround+1 {
			checkNotOk(t, e)
			checkNotRead(t, strings.Fields(wordsByTable(e, 0))...)
			continue
		}
		checkAll(t, e, &s)
		if names, types, nums, _, _ := s.told(); impl.ExprType(e, names, types) != "" {
			typed++
			if _, ok := impl.ExprOf(e, names, nums); ok {
				summed++
			}
		}
	}
	if sizes[mostParts] < 500 || sizes[mostParts+1] < 500 || depths[mostAround+1] < 500 || depths[mostAround+2] < 500 || typed < 500 || summed < 500 {
		t.Error("the parts are nearly all of one sort:", sizes, depths, typed, summed)
	}
}

// A part that has a type of names that have types comes to a number of names that have numbers.
func TestWhatHasATypeIsReckoned(t *testing.T) {
	s := steps(99)
	for range 20000 {
		e := s.grow(1+s.below(mostParts), mostAround+1)
		names, types, nums, _, _ := s.told()
		if _, ok := impl.ExprOf(e, names, nums); !ok && impl.ExprType(e, names, types) != "" {
			t.Fatalf("%v has a type, but is not reckoned with %q", e, names)
		}
	}
}

// closing is the place of the bracket that closes the one at a place.
func closing(list []string, at int) int {
	open := 0
	for i := at; i < len(list); i++ {
		switch list[i] {
		case "(":
			open++
		case ")":
			open--
		}
		if open == 0 {
			return i
		}
	}
	return -1
}

// Without any of its brackets it is another one, or none; with two more it is never the same.
func TestNoBracketIsTooMany(t *testing.T) {
	s := steps(3)
	brackets := 0
	for range 3000 {
		e := s.grow(1+s.below(mostParts), mostAround+1)
		list := impl.ExprWords(e)
		for at, word := range list {
			if word != "(" {
				continue
			}
			brackets++
			end := closing(list, at)
			fewer := slices.Concat(list[:at], list[at+1:end], list[end+1:])
			if other, ok := impl.ExprRead(fewer); ok && sameTree(other, e) {
				t.Fatalf("%q is read without the brackets at %d", list, at)
			}
			checkNotRead(t, slices.Concat(list[:at], list[at+1:])...)
			checkNotRead(t, slices.Concat(list[:end], list[end+1:])...)
		}
		for at := range list {
			for end := at + 1; end <= len(list); end++ {
				more := slices.Concat(list[:at], []string{"("}, list[at:end], []string{")"}, list[end:])
				other, ok := impl.ExprRead(more)
				if ok && (sameTree(other, e) || wordsByTable(other, 0) != strings.Join(more, " ")) {
					t.Fatalf("%q is read as %v", more, other)
				}
			}
		}
	}
	if brackets < 2000 {
		t.Error("few brackets:", brackets)
	}
}

func checkSameParts(t *testing.T, a impl.Expr, b impl.Expr, want bool) {
	t.Helper()
	if impl.ExprSame(a, b) != want || impl.ExprSame(b, a) != want {
		t.Errorf("%v and %v: want %v", a, b, want)
	}
}

// copyParts is a copy with memory of its own.
func copyParts(e impl.Expr) impl.Expr {
	e.Kids = slices.Clone(e.Kids)
	for i := range e.Kids {
		e.Kids[i] = copyParts(e.Kids[i])
	}
	return e
}

// changedParts are copies that differ from it in one thing, in one of its parts.
func changedParts(e impl.Expr) []impl.Expr {
	var all []impl.Expr
	alone := func(change func(*impl.Expr)) {
		other := copyParts(e)
		change(&other)
		all = append(all, other)
	}
	alone(func(o *impl.Expr) { o.Kind++ })
	alone(func(o *impl.Expr) { o.Kind += 1 << 32 })
	alone(func(o *impl.Expr) { o.N = -1 - o.N })
	alone(func(o *impl.Expr) { o.N += 1 << 32 })
	alone(func(o *impl.Expr) { o.S += " " })
	alone(func(o *impl.Expr) { o.S = "other" })
	alone(func(o *impl.Expr) { o.Kids = append(o.Kids, impl.Expr{}) })
	if len(e.Kids) > 0 {
		alone(func(o *impl.Expr) { o.Kids = nil })
		alone(func(o *impl.Expr) { o.Kids = o.Kids[1:] })
		alone(func(o *impl.Expr) { o.Kids = o.Kids[:len(o.Kids)-1] })
	}
	for i := range e.Kids {
		for _, kid := range changedParts(e.Kids[i]) {
			alone(func(o *impl.Expr) { o.Kids[i] = kid })
		}
	}
	return all
}

func TestSameParts(t *testing.T) {
	s := steps(11)
	var all []impl.Expr
	for range 60 {
		all = append(all, s.grow(1+s.below(16), 6))
	}
	// What is not ok can be the same, too.
	for _, bad := range badParts() {
		if len(bad.Kids) < 9 {
			all = append(all, bad, as(bad, "int"), two(number(1), "+", bad))
		}
	}
	for _, e := range all {
		checkSameParts(t, e, e, true)
		checkSameParts(t, e, copyParts(e), true)
		for _, other := range changedParts(e) {
			checkSameParts(t, e, other, false)
		}
	}
	for _, a := range all {
		for _, b := range all {
			checkSameParts(t, a, b, sameTree(a, b))
		}
	}
	x, y := name("x"), name("y")
	checkSameParts(t, two(x, "+", y), two(y, "+", x), false)
	checkSameParts(t, as(x, "int"), as(x, "bool"), false)
	checkSameParts(t, as(x, "int"), x, false)
	checkSameParts(t, impl.Expr{}, impl.Expr{Kids: []impl.Expr{}}, true)
	checkSameParts(t, x, impl.Expr{Kind: nameKind, S: "x", Kids: make([]impl.Expr, 0, 4)}, true)
	// Lists that begin at the same place, but end at others.
	room := []impl.Expr{x, y, x}
	checkSameParts(t, impl.Expr{Kids: room[:1]}, impl.Expr{Kids: room[:2]}, false)
	checkSameParts(t, impl.Expr{Kids: []impl.Expr{{Kids: room[:1]}, {Kids: room[:2]}}}, impl.Expr{Kids: []impl.Expr{{Kids: []impl.Expr{x}}, {Kids: []impl.Expr{x, x}}}}, false)
	other := []impl.Expr{x, x}
	checkSameParts(t, impl.Expr{Kids: []impl.Expr{{Kids: room[:2]}, {Kids: room[:1]}}}, impl.Expr{Kids: []impl.Expr{{Kids: other}, {Kids: other[:1]}}}, false)
}

// loop has itself as each of its kids.
func loop(mark string, count int) impl.Expr {
	e := impl.Expr{Kind: twoKind, S: mark, Kids: make([]impl.Expr, count)}
	for i := range e.Kids {
		e.Kids[i] = e
	}
	return e
}

// doubled has so many levels; both kids of each are one list, so that it has far more parts than can be gone through.
func doubled(levels int, e impl.Expr) impl.Expr {
	for range levels {
		e = impl.Expr{Kind: twoKind, S: "+", Kids: []impl.Expr{e, e}}
	}
	return e
}

// Each function answers also where parts have no end, or hardly one.
func TestPartsWithoutAnEnd(t *testing.T) {
	x := name("x")
	once, twice := loop("+", 1), loop("+", 2)
	asLoop := impl.Expr{Kind: asKind, S: "int", Kids: make([]impl.Expr, 1)}
	asLoop.Kids[0] = asLoop
	all := []impl.Expr{once, twice, loop("<", 2), asLoop, doubled(200, x), doubled(199, number(1)), within("as", x, 100000), within("second", x, 100000)}
	for i, e := range all {
		for _, one := range []impl.Expr{e, as(e, "int"), two(x, "*", e), two(e, "*", x)} {
			if impl.ExprOk(one) || len(impl.ExprWords(one)) != 0 || !isNothing(impl.ExprBare(one)) || impl.ExprType(one, nil, nil) != "" {
				t.Error("without an end, but ok:", i)
			}
			if n, ok := impl.ExprOf(one, nil, nil); ok || n != 0 {
				t.Error("without an end, but reckoned:", i, n)
			}
		}
		for j, other := range all {
			if impl.ExprSame(e, other) != (i == j) {
				t.Error("same:", i, j)
			}
		}
		if impl.ExprSame(e, x) || impl.ExprSame(two(x, "+", x), e) || impl.ExprSame(two(e, "+", e), two(e, "+", x)) || impl.ExprSame(two(e, "+", e), two(x, "+", e)) {
			t.Error("same as what has an end:", i)
		}
	}
	if !impl.ExprSame(loop("+", 2), twice) || !impl.ExprSame(doubled(200, x), doubled(200, x)) || !impl.ExprSame(within("as", x, 100000), within("as", x, 100000)) {
		t.Error("not the same as a copy")
	}
	if impl.ExprSame(doubled(200, x), doubled(200, name("y"))) || impl.ExprSame(within("as", x, 100000), within("as", x, 100001)) {
		t.Error("the same as another one")
	}
}

// places are all parts in memory that kids of it have, with their spare room, each as often as lists hold it.
func places(e impl.Expr) []*impl.Expr {
	var all []*impl.Expr
	room := e.Kids[:cap(e.Kids)]
	for i := range room {
		all = append(all, &room[i])
	}
	for _, kid := range e.Kids {
		all = append(all, places(kid)...)
	}
	return all
}

func checkNoSharing(t *testing.T, all ...impl.Expr) {
	t.Helper()
	seen := map[*impl.Expr]bool{}
	for _, e := range all {
		for _, place := range places(e) {
			if seen[place] {
				t.Errorf("shared memory in %v", e)
				return
			}
			seen[place] = true
		}
	}
}

func TestPartsAreNewMemory(t *testing.T) {
	s := steps(21)
	for range 500 {
		e := s.grow(1+s.below(mostParts), mostAround+1)
		list := impl.ExprWords(e)
		first, _ := impl.ExprRead(list)
		second, _ := impl.ExprRead(list)
		checkNoSharing(t, e, first, second, impl.ExprBare(e), impl.ExprBare(e), impl.ExprBare(impl.ExprBare(e)))
		again := impl.ExprWords(e)
		want := slices.Clone(again)
		for _, words := range [][]string{list, impl.ExprWords(e)} {
			room := words[:cap(words)]
			for i := range room {
				room[i] = "changed"
			}
		}
		if !slices.Equal(again, want) || !sameTree(first, e) || !sameTree(second, e) || !slices.Equal(impl.ExprWords(e), want) {
			t.Errorf("shared: %q, want %q", again, want)
		}
	}
	// Kids that are one list in the argument are not one in the answer.
	e := doubled(2, as(name("x"), "int"))
	if !impl.ExprOk(e) {
		t.Fatal(e)
	}
	checkNoSharing(t, impl.ExprBare(e))
	checkNoSharing(t, impl.ExprBare(doubled(2, name("x"))))
	kids := []impl.Expr{name("x"), number(1)}
	both := impl.Expr{Kind: twoKind, S: "+", Kids: kids}
	checkNoSharing(t, impl.ExprBare(two(both, "-", both)))
}

// withRoom is a copy whose lists of kids have room behind their end, and marks in it.
func withRoom(e impl.Expr) impl.Expr {
	room := make([]impl.Expr, len(e.Kids)+2)
	for i, kid := range e.Kids {
		room[i] = withRoom(kid)
	}
	for i := len(e.Kids); i < len(room); i++ {
		room[i] = impl.Expr{Kind: -7, N: i, S: "behind"}
	}
	e.Kids = room[:len(e.Kids)]
	return e
}

// allRoom writes out a part with all that is in the room of its lists.
func allRoom(e impl.Expr) string {
	var text strings.Builder
	fmt.Fprint(&text, e.Kind, e.N, e.S, len(e.Kids))
	room := e.Kids[:cap(e.Kids)]
	for i := range room {
		text.WriteString("[" + allRoom(room[i]) + "]")
	}
	return text.String()
}

func TestPartsAreOnlyLookedAt(t *testing.T) {
	s := steps(31)
	var all []impl.Expr
	for range 300 {
		all = append(all, s.grow(1+s.below(15), 6))
	}
	for _, bad := range badParts() {
		if len(bad.Kids) < 9 {
			all = append(all, bad, two(bad, "+", number(1)))
		}
	}
	for _, e := range all {
		e = withRoom(e)
		other := withRoom(e)
		before := allRoom(e)
		names, types, nums := []string{"x", "y", "x", "behind"}, []string{"int", "bool", "int", "behind"}, []int{1, 2, 3, -7}
		list := append(impl.ExprWords(e), "behind", "behind")
		words := slices.Clone(list)
		impl.ExprOk(e)
		impl.ExprSame(e, other)
		impl.ExprBare(e)
		impl.ExprType(e, names[:3], types[:3])
		impl.ExprOf(e, names[:3], nums[:3])
		impl.ExprRead(list[:len(list)-2])
		if allRoom(e) != before || allRoom(other) != before {
			t.Fatalf("written into %v", e)
		}
		if !slices.Equal(names, []string{"x", "y", "x", "behind"}) || !slices.Equal(types, []string{"int", "bool", "int", "behind"}) || !slices.Equal(nums, []int{1, 2, 3, -7}) || !slices.Equal(list, words) {
			t.Fatalf("written into the lists beside %v", e)
		}
	}
}
