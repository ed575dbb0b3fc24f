package tests

import (
	"math"
	"slices"
	"strings"
	"testing"

	"loop.example/interlinear/impl"
)

// mostMapBytes is written out here, so that a change of the bound is seen.
const mostMapBytes = 20000

// pos is the place at a line and a byte.
func pos(line int, col int) impl.Pos {
	return impl.Pos{Line: line, Col: col}
}

// checkMap looks whether a list has a text, and is read from it as it was.
func checkMap(t *testing.T, list []impl.Seg, text string) {
	t.Helper()
	checkSegs(t, list)
	if got := impl.MapText(list); got != text {
		t.Errorf("%.300v has the text %.300q, want %.300q", list, got, text)
	}
	if got, ok := impl.MapRead(text); !ok || !slices.Equal(got, list) {
		t.Errorf("%.300q is read as %.300v %v, want %.300v", text, got, ok, list)
	}
}

func checkMapNotRead(t *testing.T, why string, text string) {
	t.Helper()
	if list, ok := impl.MapRead(text); ok || len(list) != 0 {
		t.Errorf("%s: %.300q is read as %.300v %v", why, text, list, ok)
	}
}

func checkLook(t *testing.T, list []impl.Seg, p impl.Pos, want impl.Pos) {
	t.Helper()
	if got, ok := impl.MapLook(list, p); !ok || got != want {
		t.Errorf("%v came from %v %v, want %v: %.300v", p, got, ok, want, list)
	}
}

func checkNoLook(t *testing.T, list []impl.Seg, p impl.Pos) {
	t.Helper()
	if got, ok := impl.MapLook(list, p); ok || got != (impl.Pos{}) {
		t.Errorf("%v came from %v %v, want none: %.300v", p, got, ok, list)
	}
}

func checkBack(t *testing.T, list []impl.Seg, p impl.Pos, want ...impl.Pos) {
	t.Helper()
	if got := impl.MapBack(list, p); !slices.Equal(got, want) {
		t.Errorf("from %v came %v, want %v: %.300v", p, got, want, list)
	}
}

func checkJoin(t *testing.T, a []impl.Seg, b []impl.Seg, want ...impl.Seg) {
	t.Helper()
	got := impl.MapJoin(a, b)
	if !slices.Equal(got, want) {
		t.Errorf("%.300v and %.300v are joined as %.300v, want %.300v", a, b, got, want)
	}
	checkSegs(t, got)
}

// checkNoMap looks for the fixed answers to a list that is not ok.
func checkNoMap(t *testing.T, why string, list []impl.Seg) {
	t.Helper()
	checkNoSegs(t, why, list)
	if text := impl.MapText(list); text != "" {
		t.Errorf("%s, but %.300v has the text %.300q", why, list, text)
	}
	good := []impl.Seg{seg(0, 0, 0, 0), seg(0, 5, 0, 7), seg(3, 0, 2, 2)}
	for _, one := range append(slices.Clone(good), list[:min(len(list), 40)]...) {
		for _, p := range []impl.Pos{one.To, one.From, pos(one.To.Line, wideBytes-1)} {
			checkNoLook(t, list, p)
			checkBack(t, list, p)
		}
	}
	for _, other := range [][]impl.Seg{nil, good, list, {seg(0, 0, 0, 0)}} {
		if got := impl.MapJoin(list, other); len(got) != 0 {
			t.Errorf("%s, but %.300v is joined with %.300v: %.300v", why, list, other, got)
		}
		if got := impl.MapJoin(other, list); len(got) != 0 {
			t.Errorf("%s, but %.300v is joined with %.300v: %.300v", why, other, list, got)
		}
	}
}

// A mapping is a list beside its text.
type mapping struct {
	text string
	list []impl.Seg
}

func mappings() []mapping {
	return []mapping{
		{"", nil},
		// One, at the least places, at the greatest, and with each number alone.
		{"aaa", []impl.Seg{seg(0, 0, 0, 0)}},
		{strings.Repeat("=", 15) + "OoObOo", []impl.Seg{seg(15, 119, 15, 119)}},
		{"caa", []impl.Seg{seg(0, 1, 0, 0)}},
		{"aca", []impl.Seg{seg(0, 0, 1, 0)}},
		{"aac", []impl.Seg{seg(0, 0, 0, 1)}},
		{"=aaa", []impl.Seg{seg(1, 0, 0, 0)}},
		{"===egi", []impl.Seg{seg(3, 2, 3, 4)}},
		{"Ooaa", []impl.Seg{seg(0, 119, 0, 0)}},
		{"aObOo", []impl.Seg{seg(0, 0, 15, 119)}},
		{strings.Repeat("=", 15) + "aaa", []impl.Seg{seg(15, 0, 0, 0)}},
		// Numbers of one letter, and of two.
		{"ooo", []impl.Seg{seg(0, 7, 7, 7)}},
		{"AbAbAb", []impl.Seg{seg(0, 8, 8, 8)}},
		{"oaa,oaa,Abaa,Acaa,Ccaa", []impl.Seg{seg(0, 7, 0, 0), seg(0, 14, 0, 0), seg(0, 22, 0, 0), seg(0, 38, 0, 0), seg(0, 55, 0, 0)}},
		// Several of one line: next to each other, far, and as far as can be.
		{"aaa,caa", []impl.Seg{seg(0, 0, 0, 0), seg(0, 1, 0, 0)}},
		{"aaa,Ooaa", []impl.Seg{seg(0, 0, 0, 0), seg(0, 119, 0, 0)}},
		{"Moaa,caa", []impl.Seg{seg(0, 118, 0, 0), seg(0, 119, 0, 0)}},
		{"eaa,eaa,eaa", []impl.Seg{seg(0, 2, 0, 0), seg(0, 4, 0, 0), seg(0, 6, 0, 0)}},
		// The first number begins anew in each line; the other two go on.
		{"kac=kac=kac", []impl.Seg{seg(0, 5, 0, 1), seg(1, 5, 0, 2), seg(2, 5, 0, 3)}},
		{"kcc,ecc=kcc,ecc", []impl.Seg{seg(0, 5, 1, 1), seg(0, 7, 2, 2), seg(1, 5, 3, 3), seg(1, 7, 4, 4)}},
		{"Ooaa=aaa", []impl.Seg{seg(0, 119, 0, 0), seg(1, 0, 0, 0)}},
		{"kcc====kdd", []impl.Seg{seg(0, 5, 1, 1), seg(4, 5, 0, 0)}},
		// A From behind and ahead of the one ahead in the list, in one line and across lines.
		{"agi,caa,caa", []impl.Seg{seg(0, 0, 3, 4), seg(0, 1, 3, 4), seg(0, 2, 3, 4)}},
		{"agi=aaa==aaa", []impl.Seg{seg(0, 0, 3, 4), seg(1, 0, 3, 4), seg(3, 0, 3, 4)}},
		{"agi,cce,cdf", []impl.Seg{seg(0, 0, 3, 4), seg(0, 1, 4, 6), seg(0, 2, 3, 4)}},
		{"agi=ace=adf", []impl.Seg{seg(0, 0, 3, 4), seg(1, 0, 4, 6), seg(2, 0, 3, 4)}},
		{"agi,chh", []impl.Seg{seg(0, 0, 3, 4), seg(0, 1, 0, 1)}},
		{"agi,chi=agf", []impl.Seg{seg(0, 0, 3, 4), seg(0, 1, 0, 8), seg(1, 0, 3, 6)}},
		{"aObOo,cPbPo", []impl.Seg{seg(0, 0, 15, 119), seg(0, 1, 0, 0)}},
		{"aaa,cObOo", []impl.Seg{seg(0, 0, 0, 0), seg(0, 1, 15, 119)}},
		{"aObOo=aPbPo=aObOo", []impl.Seg{seg(0, 0, 15, 119), seg(1, 0, 0, 0), seg(2, 0, 15, 119)}},
		{"aaOo,cca", []impl.Seg{seg(0, 0, 0, 119), seg(0, 1, 1, 119)}},
		{"aaOo,ccPo", []impl.Seg{seg(0, 0, 0, 119), seg(0, 1, 1, 0)}},
		{"aca=adOo", []impl.Seg{seg(0, 0, 1, 0), seg(1, 0, 0, 119)}},
		{"aOba,caOo,caPo,cPbOo", []impl.Seg{seg(0, 0, 15, 0), seg(0, 1, 15, 119), seg(0, 2, 15, 0), seg(0, 3, 0, 119)}},
		// Lines in which there are none: ahead of, between and behind others; with one, and several, in a row.
		{"aaa==aaa", []impl.Seg{seg(0, 0, 0, 0), seg(2, 0, 0, 0)}},
		{"aaa=aaa==aaa,caa,caa===aaa", []impl.Seg{seg(0, 0, 0, 0), seg(1, 0, 0, 0), seg(3, 0, 0, 0), seg(3, 1, 0, 0), seg(3, 2, 0, 0), seg(6, 0, 0, 0)}},
		{"==caa,caa=caa,caa=====caa", []impl.Seg{seg(2, 1, 0, 0), seg(2, 2, 0, 0), seg(3, 1, 0, 0), seg(3, 2, 0, 0), seg(8, 1, 0, 0)}},
		{"aaa" + strings.Repeat("=", 15) + "aaa", []impl.Seg{seg(0, 0, 0, 0), seg(15, 0, 0, 0)}},
		{"Ooaa" + strings.Repeat("=", 15) + "OoObOo", []impl.Seg{seg(0, 119, 0, 0), seg(15, 119, 15, 119)}},
		{strings.Repeat("=", 14) + "aaa=aaa", []impl.Seg{seg(14, 0, 0, 0), seg(15, 0, 0, 0)}},
	}
}

func TestMapsByHand(t *testing.T) {
	for _, m := range mappings() {
		checkMap(t, m.list, m.text)
	}
	// The empty list and the nil list are the same.
	checkMap(t, []impl.Seg{}, "")
	checkMap(t, make([]impl.Seg, 0, 7), "")
	// Room behind the list does not count.
	for _, m := range mappings() {
		checkMap(t, append(slices.Clone(m.list), seg(15, 119, 1, 1), seg(-1, 0, 0, 0))[:len(m.list)], m.text)
	}
}

// Those of the issue and of the document's example, and one that is reckoned by hand.
func TestMapsOfProgramsByHand(t *testing.T) {
	for _, c := range []struct {
		lines []string
		text  string
	}{
		{[]string{""}, ""},
		{[]string{"", "", ""}, ""},
		{[]string{"say 1"}, "aaa,mai"},
		{[]string{"say 1", "", "say x as int"}, "aaa,mai==aej,mai"},
		{[]string{"say 1", "", "say x as int", "", ""}, "aaa,mai==aej,mai"},
		{[]string{"", "", "say 1"}, "==aea,mai"},
		{[]string{"let x : int = 2", "say x as int"}, "aai,eaAb,eae=acNb,mai"},
		{[]string{"let x : int = 2", "say x as int", "when x < 3 say ( x + 1 ) as int * 2"}, "aai,eaAb,eae=acNb,mai=acj,gak,eae,eae,iae,Abam,eae,eae,iaGb,eae"},
	} {
		p := progOf(t, c.lines...)
		checkMap(t, impl.EmitSegs(p), c.text)
	}
}

func TestLooksByHand(t *testing.T) {
	list := []impl.Seg{seg(0, 3, 0, 4), seg(0, 6, 9, 2), seg(0, 7, 0, 1), seg(2, 0, 5, 5), seg(2, 119, 0, 0), seg(4, 60, 15, 119), seg(15, 119, 3, 3)}
	for _, c := range []struct {
		line, first, last int
		from              impl.Pos
	}{
		{0, 3, 5, pos(0, 4)},
		{0, 6, 6, pos(9, 2)},
		{0, 7, 200, pos(0, 1)},
		{2, 0, 118, pos(5, 5)},
		{2, 119, 300, pos(0, 0)},
		{4, 60, 130, pos(15, 119)},
		{15, 119, 140, pos(3, 3)},
	} {
		for col := c.first; col <= c.last; col++ {
			checkLook(t, list, pos(c.line, col), c.from)
		}
	}
	for _, col := range []int{500, 1000, 1 << 32, math.MaxInt - 1, math.MaxInt} {
		checkLook(t, list, pos(0, col), pos(0, 1))
		checkLook(t, list, pos(15, col), pos(3, 3))
	}
	// Ahead of the first word of a line, whatever there is in the line ahead.
	for _, p := range []impl.Pos{pos(0, 0), pos(0, 1), pos(0, 2), pos(4, 0), pos(4, 59), pos(15, 0), pos(15, 118)} {
		checkNoLook(t, list, p)
	}
	// No byte of a line is below 0.
	for _, line := range []int{0, 2, 4, 15} {
		for _, col := range []int{-1, -2, -120, -1 << 32, math.MinInt} {
			checkNoLook(t, list, pos(line, col))
		}
	}
	// A line of which nothing came, one below 0, and one past the last.
	for _, line := range []int{1, 3, 5, 6, 14, -1, -2, -16, 16, 17, 32, 255, 256, 1 << 32, 1<<32 + 2, -1 << 32, math.MinInt, math.MaxInt} {
		for _, col := range []int{math.MinInt, -1, 0, 1, 3, 60, 119, 120, 1000, math.MaxInt} {
			checkNoLook(t, list, pos(line, col))
		}
	}
	for _, p := range []impl.Pos{pos(0, 0), pos(0, 7), pos(-1, 0), pos(15, 119), pos(math.MaxInt, math.MaxInt)} {
		checkNoLook(t, nil, p)
		checkNoLook(t, []impl.Seg{}, p)
	}
}

// Of a list with one, each place of its line from it on came from there, and no other one.
func TestLooksOfOne(t *testing.T) {
	for _, line := range []int{0, 1, 7, 15} {
		for _, col := range []int{0, 1, 60, 118, 119} {
			list := []impl.Seg{seg(line, col, 6, 17)}
			for otherLine := -2; otherLine < 18; otherLine++ {
				for otherCol := -2; otherCol < 123; otherCol++ {
					if otherLine == line && otherCol >= col {
						checkLook(t, list, pos(otherLine, otherCol), pos(6, 17))
					} else {
						checkNoLook(t, list, pos(otherLine, otherCol))
					}
				}
			}
		}
	}
}

// Of the bytes of what a line is turned into, those behind a word belong to it up to the next one that came from one.
func TestLooksOfAProgramByHand(t *testing.T) {
	p := progOf(t, "", "when x < 30 say ( x + 1 ) as int * 2", "let y : int = 4 as int")
	text := "\nif x < 30 : print ( x + 1 ) * 2\ny = 4"
	if got := impl.EmitText(p); got != text {
		t.Fatal(got)
	}
	list := impl.EmitSegs(p)
	// Under each byte of the two lines, the byte of the line from which it came, in tens and in ones.
	for line, row := range [][3]string{
		{
			"if x < 30 : print ( x + 1 ) * 2",
			"0000000000001111111111222222333",
			"0005577999992222222288002222335",
		},
		{
			"y = 4",
			"00111",
			"44224",
		},
	} {
		if text := strings.Split(text, "\n")[line+1]; text != row[0] {
			t.Fatal(text)
		}
		for col := range row[1] {
			checkLook(t, list, pos(line+1, col), pos(line+1, int(row[1][col]-'0')*10+int(row[2][col]-'0')))
		}
		checkNoLook(t, list, pos(line+1, -1))
	}
	for _, line := range []int{-1, 0, 3, 4} {
		for _, col := range []int{-1, 0, 1, 100} {
			checkNoLook(t, list, pos(line, col))
		}
	}
	// From each word that is turned into one came that one alone, and from the others none.
	for _, c := range []struct{ from, to int }{{0, 0}, {5, 3}, {7, 5}, {9, 7}, {12, 12}, {18, 20}, {20, 22}, {22, 24}, {33, 28}, {35, 30}} {
		checkBack(t, list, pos(1, c.from), pos(1, c.to))
	}
	for _, col := range []int{-1, 1, 4, 6, 13, 16, 17, 24, 26, 29, 30, 34, 36} {
		checkBack(t, list, pos(1, col))
	}
}

func TestBacksByHand(t *testing.T) {
	list := []impl.Seg{
		seg(0, 0, 3, 4), seg(0, 1, 3, 5), seg(0, 2, 3, 4), seg(0, 119, 3, 4),
		seg(2, 0, 0, 0), seg(2, 7, 3, 4),
		seg(5, 5, 15, 119), seg(5, 6, 4, 3), seg(5, 7, 15, 119),
		seg(14, 119, 2, 2), seg(15, 0, 3, 4), seg(15, 119, 7, 7),
	}
	checkBack(t, list, pos(3, 4), pos(0, 0), pos(0, 2), pos(0, 119), pos(2, 7), pos(15, 0))
	checkBack(t, list, pos(3, 5), pos(0, 1))
	checkBack(t, list, pos(0, 0), pos(2, 0))
	checkBack(t, list, pos(15, 119), pos(5, 5), pos(5, 7))
	checkBack(t, list, pos(4, 3), pos(5, 6))
	checkBack(t, list, pos(2, 2), pos(14, 119))
	checkBack(t, list, pos(7, 7), pos(15, 119))
	// None came from there: only the Line, or the Col, is one of a From, or it is the To of one.
	for _, p := range []impl.Pos{pos(3, 3), pos(3, 6), pos(2, 4), pos(4, 4), pos(5, 4), pos(0, 1), pos(0, 119), pos(15, 0), pos(14, 119), pos(2, 7), pos(1, 1)} {
		checkBack(t, list, p)
	}
	for _, n := range []int{-1, 16, 120, 256, 1 << 32, -1 << 32, math.MinInt, math.MaxInt} {
		for _, p := range []impl.Pos{pos(n, 0), pos(n, 4), pos(n, n), pos(3, n), pos(3+n, 4), pos(3, 4+n)} {
			checkBack(t, list, p)
		}
	}
	for _, p := range []impl.Pos{pos(0, 0), pos(3, 4), pos(-1, -1)} {
		checkBack(t, nil, p)
		checkBack(t, []impl.Seg{}, p)
	}
	// All that there may be came from one place.
	var all []impl.Seg
	var want []impl.Pos
	for i := range mostSegs {
		all = append(all, seg(i/wideBytes, i%wideBytes, 9, 9))
		want = append(want, pos(i/wideBytes, i%wideBytes))
	}
	checkBack(t, all, pos(9, 9), want...)
	checkBack(t, all, pos(9, 8))
	checkBack(t, all, pos(8, 9))
}

func TestJoinsByHand(t *testing.T) {
	b := []impl.Seg{seg(0, 3, 1, 1), seg(0, 5, 9, 9), seg(2, 3, 7, 7), seg(2, 4, 0, 0), seg(15, 119, 15, 118)}
	// Each From is told of: at a To, behind one, behind the last one of a line.
	checkJoin(t, []impl.Seg{seg(0, 0, 0, 4), seg(0, 6, 2, 3), seg(1, 0, 0, 3), seg(1, 1, 0, 119), seg(9, 9, 2, 119), seg(15, 0, 15, 119)}, b,
		seg(0, 0, 1, 1), seg(0, 6, 7, 7), seg(1, 0, 1, 1), seg(1, 1, 9, 9), seg(9, 9, 0, 0), seg(15, 0, 15, 118))
	// Some are not: ahead of the first of a line, in a line with none; the first, the last, and several in a row.
	checkJoin(t, []impl.Seg{seg(0, 0, 0, 2), seg(0, 1, 0, 0), seg(0, 2, 0, 5), seg(3, 3, 1, 119), seg(3, 4, 2, 2), seg(3, 5, 2, 3), seg(15, 118, 15, 118), seg(15, 119, 3, 0)}, b,
		seg(0, 2, 9, 9), seg(3, 5, 7, 7))
	// None is.
	checkJoin(t, []impl.Seg{seg(0, 0, 0, 2), seg(0, 1, 1, 4), seg(2, 3, 15, 118), seg(2, 4, 14, 119)}, b)
	checkJoin(t, []impl.Seg{seg(0, 3, 0, 0)}, b)
	// An empty one on either side.
	for _, none := range [][]impl.Seg{nil, {}, make([]impl.Seg, 0, 3)} {
		checkJoin(t, none, b)
		checkJoin(t, b, none)
		checkJoin(t, none, none)
		checkJoin(t, none, nil)
	}
	// It goes from the first one to the second one, and not the other way.
	first, second := []impl.Seg{seg(0, 0, 1, 1)}, []impl.Seg{seg(1, 0, 2, 2)}
	checkJoin(t, first, second, seg(0, 0, 2, 2))
	checkJoin(t, second, first)
	// The same From may be told of many times.
	checkJoin(t, []impl.Seg{seg(0, 0, 0, 5), seg(0, 1, 0, 5), seg(4, 0, 0, 6)}, b, seg(0, 0, 9, 9), seg(0, 1, 9, 9), seg(4, 0, 9, 9))
	// With itself.
	checkJoin(t, b, b)
	same := []impl.Seg{seg(0, 0, 0, 0), seg(0, 7, 0, 7), seg(3, 2, 3, 2)}
	checkJoin(t, same, same, same...)
	checkJoin(t, []impl.Seg{seg(0, 0, 0, 1), seg(0, 1, 0, 2), seg(0, 2, 0, 0)}, []impl.Seg{seg(0, 0, 0, 1), seg(0, 1, 0, 2), seg(0, 2, 0, 0)}, seg(0, 0, 0, 2), seg(0, 1, 0, 0), seg(0, 2, 0, 1))
}

func TestTextsThatAreNoMaps(t *testing.T) {
	for why, texts := range map[string][]string{
		"cut off":                          {"a", "aa", "A", "AbAbA", "aaa,c", "aaa,ca", "aaa=a", "aaa=aa", "aaA", "aObO", "aaa,cPbP", "=a", "=aa"},
		"no number":                        {"=", "==", ",", "=,", ",=", ",,", strings.Repeat("=", 15), strings.Repeat("=", 16), strings.Repeat(",", 15)},
		"a , too many ahead":               {",aaa", ",aaa,caa", "=,aaa", "aaa=,aaa", "aaa,=aaa", ",=aaa"},
		"a , too many between":             {"aaa,,caa", "aaa,caa,,caa", "=aaa,,caa"},
		"a , too many behind":              {"aaa,", "aaa,caa,", "aaa=aaa,", "aaa,,", "aaa,=aaa", "aaa=aaa,=aaa"},
		"a , within":                       {"a,aa", "aa,a", "aaa,c,aa", "aaa,ca,a"},
		"a = too many behind":              {"aaa=", "aaa==", "aaa,caa=", "=aaa=", "aaa=aaa=", "aaa,="},
		"a = within":                       {"a=aa", "aa=a", "aaa=c=aa", "aaa,ca=a"},
		"lines more than there may be":     {strings.Repeat("=", 16) + "aaa", "aaa" + strings.Repeat("=", 16) + "aaa", strings.Repeat("aaa=", 16) + "aaa", strings.Repeat("=", 17) + "aaa", strings.Repeat("=", 100) + "aaa", strings.Repeat("=", 256) + "aaa"},
		"two numbers":                      {"aa", "cc", "AbAb", "aaa,ca", "ca,caa", "aaa=aa", "aa=aaa", "aaa,ca=aaa"},
		"four numbers":                     {"aaaa", "caaa", "aaa,caaa", "aaaa,caa", "aaa=aaaa", "aaaa=aaa", "AbAbAbAb", "aaaaa", "aaaaaa", "aaacaa"},
		"one number":                       {"a", "c", "Ab", "aaa,c", "c,caa", "aaa=a"},
		"no number between":                {"aaa,,caa", "aaa, ,caa"},
		"a digit that is not needed":       {"Aaaa", "aAaa", "aaAa", "Caaa", "aCaa", "aaCa", "aaa,Caaa", "aaa,cDaa", "ABaaa", "aaa=aaAAa", "AAAAAaaa"},
		"an opposite of 0":                 {"baa", "aba", "aab", "aaa,cba", "aaa,cab", "aaa=aab", "Baaa", "bbb"},
		"a byte that is no letter":         {"zaa", "aza", "aaz", "aaq", "aaQ", "Qaa", "aaa zaa", "aaa;caa", " aaa", "aaa ", "aaa\n", "\naaa", "a aa", "aaa, caa", "aaa =aaa", "aaa=\naaa", "aaa\x00", "\xff", "a\xe9a", "aa\u00e9", "000", "1", "aaa-", "-aaa", "\u00fcaaa", "aaa\uff0ccaa", "zzz", "\"aaa\"", "[]"},
		"a first number that is 0":         {"aaa,aaa", "aaa,caa,aaa", "=aaa,acc", "Ooaa,aaa", "aaa=aaa,aaa"},
		"a first number below 0":           {"daa", "=daa", "Pbaa", "caa,daa", "kaa,daa", "kaa,faa", "Ooaa,Poaa", "aaa=daa", "caa=daa", "kaa=kaa,daa", "aaa,daa"},
		"To past its Col":                  {"Apaa", "Cpaa", "aaa,Apaa", "Ooaa,caa", "Moaa,eaa", "=Apaa", "Ooaa=Ooaa,caa", "AIEIObaa", "AAbaa", "AAAbaa"},
		"From below its Line":              {"ada", "aca,cfa", "aca=afa", "aaa,cda", "aaa=ada", "aBIEIOba"},
		"From past its Line":               {"aAca", "aCca", "aOba,cca", "aOba=aca", "aca,cOba", "aAIEIOba", "aAAAba"},
		"From below its Col":               {"aad", "aac,caf", "aac=aaf", "aaa,cad", "aaa=aad", "aaPo", "aaBIEIOb"},
		"From past its Col":                {"aaAp", "aaCp", "aaOo,cac", "aaOo=aac", "aac,caOo", "aaAIEIOb", "aaAAAb"},
		"a number past its bounds":         {"aaCIEIOb", "aCIEIOba", "CIEIObaa", "aaDIEIOb", "aaPPPPPPa", "PPPPPPPPaaa"},
		"another writing of the same list": {"aaa=", "aaa,", ",aaa", "aaa=,", "Aaaa", "baa", "aaa,caa=", "aaa,,caa", "aaa=,caa", "aaa caa"},
		"there and back again":             {"aaOo,caOo,caPo", "aObOo,cOba,cPba", "aAIEIOba,cBIEIOba", "aaAIEIOb,caBIEIOb", "Ooaa,Ooaa,Poaa", "ada,cca", "aad,cac", "aad=aac", "ada=aca", "daa,caa", "daa,eaa"},
	} {
		for _, text := range texts {
			checkMapNotRead(t, why, text)
		}
	}
}
