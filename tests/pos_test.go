package tests

import (
	"math"
	"slices"
	"strconv"
	"strings"
	"testing"

	"loop.example/interlinear/impl"
)

// The bounds are written out here, so that a change of a constant is seen.
const (
	mostBytes = 4000
	wideBytes = 120
)

// fullText is a text of so many bytes, whose lines are as wide as they may be.
func fullText(size int) string {
	line := strings.Repeat("x", wideBytes) + "\n"
	return strings.Repeat(line, size/len(line)+1)[:size]
}

// goodTexts are texts that are ok, each beside its lines.
func goodTexts() map[string][]string {
	wide := strings.Repeat("w", wideBytes)
	return map[string][]string{
		"":                          {""},
		"a":                         {"a"},
		" ":                         {" "},
		"\n":                        {"", ""},
		"\n\n":                      {"", "", ""},
		"say x":                     {"say x"},
		"let x : int = 2\nsay x":    {"let x : int = 2", "say x"},
		"ab\n\ncd":                  {"ab", "", "cd"},
		"\nab":                      {"", "ab"},
		"ab\n":                      {"ab", ""},
		"\n\nab\n\n\nc\n\n":         {"", "", "ab", "", "", "c", "", ""},
		" !~\n ~! ":                 {" !~", " ~! "},
		wide:                        {wide},
		wide + "\n" + wide:          {wide, wide},
		"\n" + wide + "\n":          {"", wide, ""},
		fullText(mostBytes):         strings.Split(fullText(mostBytes), "\n"),
		strings.Repeat("\n", 4000):  make([]string, 4001),
		strings.Repeat("ab\n", 100): strings.Split(strings.Repeat("ab\n", 100), "\n"),
	}
}

// badTexts are texts that are not ok.
func badTexts() map[string]string {
	wider := strings.Repeat("w", wideBytes+1)
	return map[string]string{
		"one byte too many":             fullText(mostBytes + 1),
		"one newline too many":          strings.Repeat("\n", mostBytes+1),
		"far too many bytes":            fullText(100 * mostBytes),
		"a line too wide":               wider,
		"the first line too wide":       wider + "\na",
		"a line within too wide":        "a\n" + wider + "\nb",
		"the last line too wide":        "a\n" + wider,
		"a tab":                         "a\tb",
		"a carriage return":             "a\r\nb",
		"a zero byte":                   "\x00",
		"below the space":               "\x1f",
		"behind the tilde":              "\x7f",
		"the highest byte":              "\xff",
		"a letter of two bytes":         "\u00e9",
		"a bad byte behind a good line": "good\nb\x80d",
		"a bad byte ahead of newlines":  "\x01\n\n",
	}
}

func TestBoundsOfTexts(t *testing.T) {
	if impl.TextMost != mostBytes || impl.TextWide != wideBytes {
		t.Error("bounds", impl.TextMost, impl.TextWide)
	}
}

func TestTextOkTakesGoodTexts(t *testing.T) {
	for s := range goodTexts() {
		if !impl.TextOk(s) {
			t.Errorf("%.40q of %d bytes is ok", s, len(s))
		}
	}
}

func TestTextOkRefusesBadTexts(t *testing.T) {
	for name, s := range badTexts() {
		if impl.TextOk(s) {
			t.Errorf("%s is not ok", name)
		}
	}
}

func TestTextOkOfEachByte(t *testing.T) {
	for b := range 256 {
		one := string([]byte{byte(b)})
		want := b == 10 || 32 <= b && b <= 126
		for _, s := range []string{one, "ab" + one, one + "ab", "a\n" + one + "\nb"} {
			if impl.TextOk(s) != want {
				t.Errorf("byte %d in %q: want %v", b, s, want)
			}
		}
	}
}

func TestTextOkOfEachSize(t *testing.T) {
	for size := range mostBytes + 300 {
		if impl.TextOk(fullText(size)) != (size <= mostBytes) {
			t.Errorf("a text of %d bytes", size)
		}
	}
	for size := range 3 * wideBytes {
		line := strings.Repeat(".", size)
		for _, s := range []string{line, "a\n" + line, line + "\nb"} {
			if impl.TextOk(s) != (size <= wideBytes) {
				t.Errorf("a line of %d bytes in %.5q", size, s)
			}
		}
	}
}

func TestTextLinesAndTextJoin(t *testing.T) {
	for s, want := range goodTexts() {
		lines := impl.TextLines(s)
		if !slices.Equal(lines, want) {
			t.Errorf("lines of %.40q: %.80q", s, lines)
		}
		if impl.TextJoin(lines) != s {
			t.Errorf("%.40q is not joined as it was", s)
		}
	}
}

func TestTextLinesOfBadTexts(t *testing.T) {
	for name, s := range badTexts() {
		if lines := impl.TextLines(s); len(lines) != 0 {
			t.Errorf("%s has %d lines", name, len(lines))
		}
	}
}

// TextJoin takes any lines, also ones of which no text that is ok comes.
func TestTextJoinOfAnyLines(t *testing.T) {
	wider := strings.Repeat("w", 5000)
	for _, c := range []struct {
		lines []string
		want  string
	}{
		{nil, ""},
		{[]string{}, ""},
		{[]string{""}, ""},
		{[]string{"", ""}, "\n"},
		{[]string{"a"}, "a"},
		{[]string{"a", "b"}, "a\nb"},
		{[]string{"", "a", "", "b", ""}, "\na\n\nb\n"},
		{[]string{"a\nb", "c"}, "a\nb\nc"},
		{[]string{"\t\xff", "\x00"}, "\t\xff\n\x00"},
		{[]string{wider, wider}, wider + "\n" + wider},
	} {
		if got := impl.TextJoin(c.lines); got != c.want {
			t.Errorf("%.40q: %.40q", c.lines, got)
		}
	}
}

func TestPosLess(t *testing.T) {
	rising := []impl.Pos{
		{Line: math.MinInt, Col: math.MaxInt}, {Line: -1, Col: 5}, {Line: 0, Col: math.MinInt}, {Line: 0, Col: -1},
		{Line: 0, Col: 0}, {Line: 0, Col: 1}, {Line: 0, Col: 9}, {Line: 1, Col: 0}, {Line: 1, Col: 8},
		{Line: 2, Col: -3}, {Line: 2, Col: 0}, {Line: math.MaxInt, Col: math.MinInt}, {Line: math.MaxInt, Col: math.MaxInt},
	}
	for i, a := range rising {
		for j, b := range rising {
			if impl.PosLess(a, b) != (i < j) {
				t.Errorf("%v and %v", a, b)
			}
		}
	}
}

// placeByCount tells a place as the document does: by the newlines ahead, and the bytes behind the last of these.
func placeByCount(s string, off int) impl.Pos {
	ahead := s[:off]
	return impl.Pos{Line: strings.Count(ahead, "\n"), Col: off - 1 - strings.LastIndex(ahead, "\n")}
}

func TestEachByteHasOnePlace(t *testing.T) {
	for s := range goodTexts() {
		last := impl.Pos{Line: -1}
		for off := 0; off <= len(s); off++ {
			p, ok := impl.PosOf(s, off)
			if !ok || p != placeByCount(s, off) {
				t.Fatalf("byte %d of %.40q: %v %v", off, s, p, ok)
			}
			if !impl.PosLess(last, p) {
				t.Fatalf("byte %d of %.40q: %v is not behind %v", off, s, p, last)
			}
			last = p
			if back, ok := impl.PosOff(s, p); !ok || back != off {
				t.Fatalf("place %v of %.40q: %d %v, want %d", p, s, back, ok, off)
			}
		}
	}
}

func TestEachPlaceHasOneByte(t *testing.T) {
	for s, lines := range goodTexts() {
		begin := 0
		for i, line := range lines {
			for col := -2; col <= len(line)+3; col++ {
				checkOff(t, s, impl.Pos{Line: i, Col: col}, begin+col, 0 <= col && col <= len(line))
			}
			begin += len(line) + 1
		}
	}
}

func checkOff(t *testing.T, s string, p impl.Pos, want int, there bool) {
	t.Helper()
	if !there {
		want = 0
	}
	if off, ok := impl.PosOff(s, p); ok != there || off != want {
		t.Errorf("place %v of %.40q: %d %v, want %d %v", p, s, off, ok, want, there)
	}
}

// All texts of up to six bytes of two letters and newlines, so that no arrangement of empty lines is left out.
func TestPlacesOfAllShortTexts(t *testing.T) {
	texts := []string{""}
	for n := 0; n < len(texts); n++ {
		s := texts[n]
		if len(s) < 6 {
			texts = append(texts, s+"a", s+" ", s+"\n")
		}
		found := 0
		for line := -1; line <= 8; line++ {
			for col := -1; col <= 8; col++ {
				p := impl.Pos{Line: line, Col: col}
				off, ok := impl.PosOff(s, p)
				if !ok {
					checkOff(t, s, p, 0, false)
					continue
				}
				found++
				if back, fine := impl.PosOf(s, off); !fine || back != p {
					t.Errorf("%q: %v is byte %d, which is %v", s, p, off, back)
				}
			}
		}
		if found != len(s)+1 {
			t.Errorf("%q has %d places", s, found)
		}
	}
}

func TestThereIsNoSuchByte(t *testing.T) {
	for s := range goodTexts() {
		for _, off := range []int{math.MinInt, -len(s) - 1, -2, -1, len(s) + 1, len(s) + 2, mostBytes + 1, math.MaxInt} {
			if p, ok := impl.PosOf(s, off); ok || p != (impl.Pos{}) {
				t.Errorf("byte %d of %.40q: %v %v", off, s, p, ok)
			}
		}
	}
}

func TestThereIsNoSuchPlace(t *testing.T) {
	for s, lines := range goodTexts() {
		n := len(lines)
		for _, p := range []impl.Pos{
			{Line: -1, Col: 0}, {Line: 0, Col: -1}, {Line: -1, Col: -1}, {Line: n, Col: 0}, {Line: n, Col: -1}, {Line: n + 1, Col: 0},
			{Line: n - 1, Col: len(lines[n-1]) + 1}, {Line: 0, Col: wideBytes + 1}, {Line: n - 1, Col: -1},
			{Line: math.MinInt, Col: 0}, {Line: math.MaxInt, Col: 0}, {Line: 0, Col: math.MinInt}, {Line: 0, Col: math.MaxInt},
			{Line: n - 1, Col: math.MaxInt}, {Line: n - 1, Col: math.MinInt}, {Line: math.MaxInt, Col: math.MaxInt},
		} {
			checkOff(t, s, p, 0, false)
		}
	}
}

func TestBadTextsHaveNoPlaces(t *testing.T) {
	for name, s := range badTexts() {
		for _, n := range []int{-1, 0, 1, len(s) - 1, len(s), len(s) + 1} {
			if p, ok := impl.PosOf(s, n); ok || p != (impl.Pos{}) {
				t.Errorf("%s: byte %d: %v %v", name, n, p, ok)
			}
			checkOff(t, s, impl.Pos{Col: n}, 0, false)
			checkOff(t, s, impl.Pos{Line: 1, Col: n}, 0, false)
		}
	}
}

func TestLinesAreNewMemory(t *testing.T) {
	s := "ab\n\ncd"
	first := impl.TextLines(s)
	second := impl.TextLines(s)
	for i := range first {
		first[i] = "changed " + strconv.Itoa(i)
	}
	// What is written into the spare room of one answer must not be seen in another one.
	first = append(first, "more")
	if !slices.Equal(second, []string{"ab", "", "cd"}) || !slices.Equal(impl.TextLines(s), second) || len(first) != 4 {
		t.Error("shared", second)
	}
}

func TestTextJoinWritesNothing(t *testing.T) {
	room := []string{"a", "", "b", "behind"}
	lines := room[:3]
	if impl.TextJoin(lines) != "a\n\nb" || !slices.Equal(room, []string{"a", "", "b", "behind"}) {
		t.Error("written", room)
	}
}
