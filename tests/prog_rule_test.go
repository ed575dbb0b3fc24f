package tests

import (
	"fmt"
	"slices"
	"strings"
	"testing"

	"loop.example/interlinear/impl"
)

// textByRule is the text of a program as the document tells it, of lines whose parts are ok.
func textByRule(p []impl.Stmt) string {
	var lines []string
	for _, s := range p {
		lines = append(lines, lineByRule(s))
	}
	return strings.Join(lines, "\n")
}

// rightByRule says whether a line is as it must be behind those ahead of it.
func rightByRule(ahead []impl.Stmt, s impl.Stmt) bool {
	types := map[string]string{}
	for _, other := range ahead {
		if other.Kind == letKind {
			types[other.Name] = other.Type
		}
	}
	switch s.Kind {
	case letKind:
		return typeByRule(s.Expr, types) == s.Type
	case sayKind:
		return typeByRule(s.Expr, types) != ""
	case whenKind:
		return typeByRule(s.Expr, types) == "bool" && typeByRule(s.Then, types) != ""
	}
	return true
}

// wrongByRule is the first line that is not as it must be.
func wrongByRule(p []impl.Stmt) int {
	for i, s := range p {
		if !rightByRule(p[:i], s) {
			return i
		}
	}
	return noneWrong
}

// saidByRule is what a program says, and whether all of it was reckoned.
func saidByRule(p []impl.Stmt) ([]int, bool) {
	var said []int
	nums := map[string]int{}
	for _, s := range p {
		if s.Kind == noneKind {
			continue
		}
		n, ok := sumByRule(s.Expr, nums)
		then, fine := 0, true
		if s.Kind == whenKind {
			then, fine = sumByRule(s.Then, nums)
		}
		switch {
		case !ok || !fine:
			return said, false
		case s.Kind == letKind:
			nums[s.Name] = n
		case s.Kind == sayKind:
			said = append(said, n)
		case n != 0:
			said = append(said, then)
		}
	}
	return said, true
}

// checkByRule holds all that the program tells of lines that are ok against what the document tells of them.
func checkByRule(t *testing.T, p []impl.Stmt) {
	t.Helper()
	checkProg(t, p, textByRule(p))
	said, all := saidByRule(p)
	checkDoes(t, p, wrongByRule(p), said, all)
}

// checkPromise looks whether a program whose types are right says all: one number for each StmtSay, and for each StmtWhen whose Expr does not come to 0.
func checkPromise(t *testing.T, p []impl.Stmt) {
	t.Helper()
	said, all := impl.ProgRun(p)
	if impl.ProgType(p) != noneWrong {
		return
	}
	var names []string
	var nums, want []int
	for _, s := range p {
		n, _ := impl.ExprOf(s.Expr, names, nums)
		switch {
		case s.Kind == letKind:
			names, nums = append(names, s.Name), append(nums, n)
		case s.Kind == sayKind:
			want = append(want, n)
		case s.Kind == whenKind && n != 0:
			then, _ := impl.ExprOf(s.Then, names, nums)
			want = append(want, then)
		}
	}
	if !all || !slices.Equal(said, want) {
		t.Errorf("%q has right types, but says %v %v, want %v", textByRule(p), said, all, want)
	}
}

// smallLines are lines in which few names are told with either type and used in each way.
func smallLines(t *testing.T) []impl.Stmt {
	t.Helper()
	return progOf(t, "", "say 1", "say x", "say x + 1", "say y", "let x : int = 2", "let x : int = x + 3", "let x : bool = x < 4", "let x : bool = 0 as bool", "let y : int = x",
		"let y : bool = x", "when x say 5", "when x < 2 say x", "when y say x", "when 0 as bool say y", "let x : int = y as int - 1")
}

func TestAllSmallPrograms(t *testing.T) {
	lines := smallLines(t)
	right, wrong, stuck := 0, 0, 0
	var try func(p []impl.Stmt)
	try = func(p []impl.Stmt) {
		if len(p) > 0 {
			checkByRule(t, p)
			checkPromise(t, p)
			if wrongByRule(p) == noneWrong {
				right++
			} else {
				wrong++
			}
			if _, ok := saidByRule(p); !ok {
				stuck++
			}
		}
		if len(p) < 4 && !t.Failed() {
			for _, s := range lines {
				try(append(slices.Clone(p), s))
			}
		}
	}
	try(nil)
	if right < 1500 || wrong < 5000 || stuck < 5000 {
		t.Error("the programs are nearly all of one sort:", right, wrong, stuck)
	}
}

// narrowLine is a line that is not too wide.
func (s *steps) narrowLine() impl.Stmt {
	for {
		if line := s.line(); len(lineByRule(line)) <= widestLine {
			return line
		}
	}
}

// program makes a program of so many lines; so many in a hundred of these are any lines, the others are as they must be.
func (s *steps) program(count int, loose int) []impl.Stmt {
	var p []impl.Stmt
	for range count {
		line := s.narrowLine()
		care := s.below(100) >= loose
		for tries := 0; care && tries < 300 && !rightByRule(p, line); tries++ {
			line = s.narrowLine()
		}
		p = append(p, line)
	}
	return p
}

func TestManyProgramsByRule(t *testing.T) {
	s := steps(23)
	counts, wrongs, saids := map[int]int{}, map[int]int{}, map[int]int{}
	stuckBehind := 0
	for i := range 6000 {
		p := s.program(1+s.below(mostLines), []int{0, 15, 100}[i%3])
		checkByRule(t, p)
		checkPromise(t, p)
		counts[len(p)]++
		wrongs[wrongByRule(p)]++
		said, all := saidByRule(p)
		saids[len(said)]++
		if !all && len(said) > 0 {
			stuckBehind++
		}
		if t.Failed() {
			return
		}
	}
	if counts[1] < 200 || counts[mostLines] < 200 || wrongs[noneWrong] < 1000 || wrongs[0] < 500 || wrongs[3] < 20 || saids[0] < 500 || saids[5] < 100 || stuckBehind < 100 {
		t.Error("the programs are nearly all of one sort:", counts, wrongs, saids, stuckBehind)
	}
}

// Whatever lines are put behind, what was said and the first line that is not as it must be stay.
func TestProgramsGoOnAsTheyBegan(t *testing.T) {
	s := steps(29)
	for range 400 {
		p := s.program(mostLines, 10)
		wrong := impl.ProgType(p)
		said, all := impl.ProgRun(p)
		for count := 1; count < len(p); count++ {
			begun := impl.ProgType(p[:count])
			if begun != wrong && (begun != noneWrong || 0 <= wrong && wrong < count) {
				t.Fatalf("%q: %d lines tell %d, all tell %d", textByRule(p), count, begun, wrong)
			}
			first, fine := impl.ProgRun(p[:count])
			if len(first) > len(said) || !slices.Equal(first, said[:len(first)]) || !fine && (all || len(first) != len(said)) {
				t.Fatalf("%q: %d lines say %v %v, all say %v %v", textByRule(p), count, first, fine, said, all)
			}
		}
	}
}

// checkTextByLines reads a text: it is a program just if each of its lines is a line and there are not too many.
func checkTextByLines(t *testing.T, text string) bool {
	t.Helper()
	var want []impl.Stmt
	lines := strings.Split(text, "\n")
	for _, line := range lines {
		s, ok := impl.StmtRead(line)
		if !ok || len(lines) > mostLines {
			checkProgNotRead(t, text)
			return false
		}
		want = append(want, s)
	}
	checkProg(t, want, text)
	return true
}

// Texts that differ in a byte or a line from that of a program: they are that of another one, or of none.
func TestChangedTextsOfPrograms(t *testing.T) {
	s := steps(37)
	read, notRead := 0, 0
	count := func(text string) {
		if checkTextByLines(t, text) {
			read++
		} else {
			notRead++
		}
	}
	for i := range 10 {
		text := textByRule(s.program([]int{1, 2, 5, mostLines - 1, mostLines}[i%5], 100))
		for at := range len(text) + 1 {
			for _, b := range []string{"\n", " ", "x", "1", "\t"} {
				count(text[:at] + b + text[at:])
			}
			count(text[:at])
			count(text[at:])
			if at < len(text) {
				count(text[:at] + text[at+1:])
				count(text[:at] + "\n" + text[at+1:])
			}
		}
		lines := strings.Split(text, "\n")
		for at := range lines {
			count(strings.Join(slices.Insert(slices.Clone(lines), at, lines[at]), "\n"))
			count(strings.Join(slices.Delete(slices.Clone(lines), at, at+1), "\n"))
		}
	}
	if read < 1000 || notRead < 10000 {
		t.Error("the texts are nearly all of one sort:", read, notRead)
	}
}

// No two programs have one text, as each is read from its own.
func TestAllShortTextsOfPrograms(t *testing.T) {
	var try func(text string, left int)
	try = func(text string, left int) {
		checkTextByLines(t, text)
		if left > 0 && !t.Failed() {
			for _, piece := range []string{"\n", "say ", "x", "1", " "} {
				try(text+piece, left-1)
			}
		}
	}
	try("", 7)
}

// Each function answers also where parts have no end, or hardly one, and where there are very many lines.
func TestProgramsWithoutAnEnd(t *testing.T) {
	x := name("x")
	good := let("x", "int", number(1))
	for i, e := range []impl.Expr{loop("+", 1), loop("+", 2), doubled(200, x), within("as", x, 100000), {Kids: make([]impl.Expr, 100000)}} {
		for j, bad := range []impl.Stmt{let("y", "int", e), say(e), when(e, x), when(x, e), {Expr: e}, {Then: e}, {Kind: sayKind, Expr: x, Then: e}} {
			for _, p := range [][]impl.Stmt{{bad}, {good, bad}, {bad, good}, slices.Repeat([]impl.Stmt{bad}, mostLines), slices.Repeat([]impl.Stmt{bad}, mostLines+1)} {
				said, all := impl.ProgRun(p)
				if impl.ProgOk(p) || impl.ProgText(p) != "" || impl.ProgType(p) != noProgram || all || len(said) != 0 {
					t.Error("without an end, but a program:", i, j)
				}
			}
		}
	}
	checkNoProg(t, make([]impl.Stmt, 1000000))
	for _, piece := range []string{"\n", "say 1\n", "x", " ", "\xff", "say 1 + "} {
		checkProgNotRead(t, strings.Repeat(piece, 1000000))
	}
}

// partsOfLines are all that lines reckon.
func partsOfLines(p []impl.Stmt) []impl.Expr {
	var all []impl.Expr
	for _, s := range p {
		all = append(all, s.Expr, s.Then)
	}
	return all
}

// overwrite writes into a list, and into the room behind its end.
func overwrite[T any](list []T, value T) {
	room := list[:cap(list)]
	for i := range room {
		room[i] = value
	}
}

func TestProgramsAreNewMemory(t *testing.T) {
	s := steps(43)
	for range 300 {
		p := s.program(1+s.below(mostLines), 10)
		text := textByRule(p)
		first, _ := impl.ProgRead(text)
		second, _ := impl.ProgRead(text)
		checkNoSharing(t, slices.Concat(partsOfLines(first), partsOfLines(second))...)
		overwrite(first, impl.Stmt{Kind: 9})
		if !samePrograms(second, p) {
			t.Fatalf("%q is read into shared memory", text)
		}
		want, all := saidByRule(p)
		one, _ := impl.ProgRun(p)
		other, _ := impl.ProgRun(p)
		overwrite(one, -7)
		// Looked at ahead of the next call, which would set right what both share.
		if !slices.Equal(other, want) {
			t.Fatalf("%q is said into shared memory: %v, want %v", text, other, want)
		}
		if again, ok := impl.ProgRun(p); !slices.Equal(again, want) || ok != all {
			t.Fatalf("%q is said anew as %v %v, want %v %v", text, again, ok, want, all)
		}
		checkByRule(t, p)
	}
	// Lines that are the same have memory of their own, too.
	same, ok := impl.ProgRead(strings.Join(slices.Repeat([]string{"when x + 1 < 2 say x + 1 < 2"}, mostLines), "\n"))
	if !ok || len(same) != mostLines {
		t.Fatal(same, ok)
	}
	checkNoSharing(t, partsOfLines(same)...)
}

// allOfLines writes out lines with all that is in the room of their lists, and of the list of lines itself.
func allOfLines(p []impl.Stmt) string {
	var text strings.Builder
	for _, s := range p[:cap(p)] {
		fmt.Fprintf(&text, "%d %q %q %s %s\n", s.Kind, s.Name, s.Type, allRoom(s.Expr), allRoom(s.Then))
	}
	return text.String()
}

// programsWithRoom are programs, and lines that are none, with room behind the end of all their lists, and marks in it.
func programsWithRoom(s steps) [][]impl.Stmt {
	var all [][]impl.Stmt
	for range 200 {
		all = append(all, s.program(1+s.below(mostLines+2), 10))
	}
	for _, bad := range badLines() {
		if len(bad.Expr.Kids) < 9 {
			all = append(all, []impl.Stmt{let("x", "int", number(1)), bad, say(name("x"))}, []impl.Stmt{bad})
		}
	}
	for i, lines := range all {
		room := []impl.Stmt{}
		for _, line := range append(slices.Clone(lines), say(name("behind")), impl.Stmt{Kind: -7, Name: "behind"}) {
			line.Expr, line.Then = withRoom(line.Expr), withRoom(line.Then)
			room = append(room, line)
		}
		all[i] = room[:len(lines)]
	}
	return all
}

func TestProgramsAreOnlyLookedAt(t *testing.T) {
	for _, p := range programsWithRoom(47) {
		before := allOfLines(p)
		impl.ProgOk(p)
		impl.ProgText(p)
		impl.ProgType(p)
		impl.ProgRun(p)
		if allOfLines(p) != before {
			t.Fatalf("written into %.300v", p)
		}
	}
}

// No call keeps anything for the next one: names that were told are told no more.
func TestProgramsKeepNothing(t *testing.T) {
	tells := progOf(t, "let x : int = 1", "say x")
	uses := progOf(t, "say x")
	for range 3 {
		checkDoes(t, tells, noneWrong, []int{1}, true)
		checkDoes(t, uses, 0, nil, false)
	}
}
