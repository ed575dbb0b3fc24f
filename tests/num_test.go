package tests

import (
	"math"
	"slices"
	"strconv"
	"strings"
	"testing"

	"loop.example/interlinear/impl"
)

// The bound and the letters are written out here, so that a change of either is seen.
const (
	mostNumber  = 1000000
	lastLetters = "abcdefghijklmnop"
	moreLetters = "ABCDEFGHIJKLMNOP"
)

// lettersOf writes a code as the document does, by the digits that strconv tells.
func lettersOf(code int) string {
	hex := strconv.FormatInt(int64(code), 16)
	var text strings.Builder
	for i := len(hex) - 1; i >= 0; i-- {
		letters := moreLetters
		if i == 0 {
			letters = lastLetters
		}
		text.WriteByte(letters[strings.IndexByte("0123456789abcdef", hex[i])])
	}
	return text.String()
}

// numberLetters is NumText as the document tells it, of a number within its bounds.
func numberLetters(n int) string {
	if n < 0 {
		return lettersOf(-2*n + 1)
	}
	return lettersOf(2 * n)
}

// writtenNumbers are numbers beside their letters, reckoned by hand.
func writtenNumbers() map[int]string {
	return map[int]string{
		0: "a", 1: "c", -1: "d", 2: "e", -2: "f", 3: "g", 7: "o", -7: "p",
		8: "Ab", -8: "Bb", 15: "Ob", -15: "Pb", 16: "Ac", -16: "Bc", 127: "Op", -127: "Pp",
		128: "AAb", -128: "BAb", 129: "CAb", 2047: "OPp", 2048: "AAAb", -2048: "BAAb", 32768: "AAAAb", 524288: "AAAAAb",
		mostNumber - 1: "OHEIOb", 1 - mostNumber: "PHEIOb", mostNumber: "AIEIOb", -mostNumber: "BIEIOb",
	}
}

// noNumbers are texts at whose beginning no number's letters stand.
func noNumbers() map[string]string {
	return map[string]string{
		"the empty text":                     "",
		"an opposite of 0":                   "b",
		"an opposite of 0, longer":           "Ba",
		"0 with a needless digit":            "Aa",
		"0 with two needless digits":         "AAa",
		"1 with a needless digit":            "Ca",
		"-1 with a needless digit":           "Da",
		"8 with a needless digit":            "ABa",
		"128 with needless digits":           "AABAAa",
		"1 with needless digits to the end":  "CAAAAa",
		"the greatest with a needless digit": "AIEIOBa",
		"one more than the greatest":         "CIEIOb",
		"one less than the least":            "DIEIOb",
		"a highest digit too great":          "AIEIOc",
		"six full digits":                    "PPPPPp",
		"seven digits":                       "AAAAAAb",
		"eight digits":                       "PPPPPPPp",
		"no last digit":                      "A",
		"no last digit behind three":         "BCD",
		"no last digit behind five":          "AIEIO",
		"no last digit behind six":           "AIEIOB",
		"a digit that never ends":            strings.Repeat("A", 5000),
		"a greater one that never ends":      strings.Repeat("P", 5000),
		"the letter behind p":                "q",
		"the letter behind P":                "Q",
		"the byte ahead of a":                "`",
		"the byte ahead of A":                "@",
		"a last letter":                      "z",
		"a digit of decimals":                "1",
		"a sign":                             "-c",
		"a space ahead":                      " c",
		"a newline ahead":                    "\nc",
		"a mark of the map":                  ",",
		"a bad byte for the last digit":      "Aq",
		"a bad byte behind two digits":       "ABZb",
		"a space within":                     "A b",
		"a letter of two bytes":              "\u00e9",
		"a zero byte":                        "\x00",
		"the highest byte":                   "\xff",
	}
}

func checkRead(t *testing.T, s string, at int, want int, behind int) {
	t.Helper()
	if n, next := impl.NumRead(s, at); n != want || next != behind {
		t.Errorf("%.40q from %d: %d %d, want %d %d", s, at, n, next, want, behind)
	}
}

func checkNoNumbers(t *testing.T, s string) {
	t.Helper()
	if list, ok := impl.NumsRead(s); ok || len(list) != 0 {
		t.Errorf("%.40q holds no numbers: %v %v", s, list, ok)
	}
}

func TestBoundOfNumbers(t *testing.T) {
	if impl.NumMost != mostNumber {
		t.Error("bound", impl.NumMost)
	}
}

func TestNumLetterOfEachDigit(t *testing.T) {
	for d, letter := range strings.Split(lastLetters+moreLetters, "") {
		if got := impl.NumLetter(d); got != letter {
			t.Errorf("digit %d: %q, want %q", d, got, letter)
		}
	}
}

func TestNumLetterOfNoDigit(t *testing.T) {
	for d := 32; d <= 600; d++ {
		for _, none := range []int{d, 31 - d} {
			if got := impl.NumLetter(none); got != "" {
				t.Errorf("digit %d: %q", none, got)
			}
		}
	}
	for _, d := range []int{math.MinInt, math.MinInt + 16, math.MinInt32, math.MaxInt32, 1 << 32, math.MaxInt - 16, math.MaxInt} {
		if got := impl.NumLetter(d); got != "" {
			t.Errorf("digit %d: %q", d, got)
		}
	}
}

func TestNumTextByHand(t *testing.T) {
	for n, want := range writtenNumbers() {
		if got := impl.NumText(n); got != want {
			t.Errorf("%d: %q, want %q", n, got, want)
		}
		checkRead(t, want, 0, n, len(want))
	}
}

func TestEachNumberIsReadAsItWas(t *testing.T) {
	for n := -mostNumber; n <= mostNumber; n++ {
		s := impl.NumText(n)
		if s != numberLetters(n) {
			t.Fatalf("%d: %q, want %q", n, s, numberLetters(n))
		}
		if back, next := impl.NumRead(s, 0); back != n || next != len(s) {
			t.Fatalf("%d as %q: %d %d", n, s, back, next)
		}
	}
}

func TestNumTextPastTheBounds(t *testing.T) {
	for _, past := range []int{1, 2, 3, 48576, mostNumber, math.MaxInt32, math.MaxInt - mostNumber} {
		for _, n := range []int{mostNumber + past, -mostNumber - past} {
			if got := impl.NumText(n); got != "" {
				t.Errorf("%d: %q", n, got)
			}
		}
	}
	if got := impl.NumText(math.MinInt); got != "" {
		t.Errorf("the least of all: %q", got)
	}
}

// All codes right behind the bounds, and of the others of six digits, and of seven, one in 101.
func TestCodesPastTheBoundsAreNotRead(t *testing.T) {
	step := 1
	for code := 2*mostNumber + 2; code < 1<<26; code += step {
		if code > 2*mostNumber+5000 {
			step = 101
		}
		s := lettersOf(code)
		if n, next := impl.NumRead(s, 0); n != 0 || next != -1 {
			t.Fatalf("%q: %d %d", s, n, next)
		}
	}
}

func TestNumReadFromWithin(t *testing.T) {
	for n, letters := range writtenNumbers() {
		for _, ahead := range []string{"", "a", "A", "PPPPPPP", "zz", "=,", "\xff\x00", strings.Repeat("b", 300)} {
			for _, behind := range []string{"", "a", "b", "A", "p", "P", "zz", ",=", " ", "\n", "\xff", strings.Repeat("A", 300)} {
				checkRead(t, ahead+letters+behind, len(ahead), n, len(ahead)+len(letters))
			}
		}
	}
}

func TestNumReadOfNoNumber(t *testing.T) {
	for name, s := range noNumbers() {
		for _, ahead := range []string{"", "a", "c", "zz", "Ab"} {
			if n, next := impl.NumRead(ahead+s, len(ahead)); n != 0 || next != -1 {
				t.Errorf("%s, behind %q: %d %d", name, ahead, n, next)
			}
		}
	}
}

// A number begins at any of its own digits, too, if what is left is one.
func TestNumReadFromWithinANumber(t *testing.T) {
	checkRead(t, "AAb", 0, 128, 3)
	checkRead(t, "AAb", 1, 8, 3)
	checkRead(t, "AAb", 2, 0, -1)
	checkRead(t, "AAc", 2, 1, 3)
	checkRead(t, "AAa", 1, 0, -1)
	checkRead(t, "AAa", 2, 0, 3)
	checkRead(t, "AAAAAAAb", 2, 524288, 8)
	checkRead(t, "AAAAAAAb", 1, 0, -1)
}

func TestNumReadFromNoByte(t *testing.T) {
	for _, s := range []string{"", "a", "acAb", "AAb", "z", strings.Repeat("a", 70)} {
		n := len(s)
		for _, at := range []int{math.MinInt, -n - 1, -2, -1, n, n + 1, n + 2, n + 64, math.MaxInt - 1, math.MaxInt} {
			checkRead(t, s, at, 0, -1)
		}
	}
}

func TestNumReadOfEachByte(t *testing.T) {
	for b := range 256 {
		one := string([]byte{byte(b)})
		digit := strings.Index(lastLetters, one)
		if digit < 0 || digit == 1 {
			checkRead(t, one, 0, 0, -1)
			checkNoNumbers(t, one)
		}
		if digit < 1 {
			checkRead(t, "A"+one, 0, 0, -1)
			checkNoNumbers(t, "A"+one)
			continue
		}
		checkRead(t, "A"+one, 0, 8*digit, 2)
	}
}

// A last digit that is far behind must not come back as if it stood nearer.
func TestManyDigitsAreNotRead(t *testing.T) {
	for digits := 6; digits <= 200; digits++ {
		for _, first := range []string{"A", "B", "C", "P"} {
			for _, last := range []string{"", "a", "b", "c", "p", "q"} {
				s := strings.Repeat(first, digits) + last
				checkRead(t, s, 0, 0, -1)
				checkNoNumbers(t, s)
			}
		}
	}
}

// All texts of up to five bytes of digits of each kind and of letters that are none.
func TestAllShortTextsAreReadInOneWay(t *testing.T) {
	numbers := map[string]int{}
	for n := -600000; n <= 600000; n++ {
		numbers[numberLetters(n)] = n
	}
	texts := []string{""}
	for i := 0; i < len(texts); i++ {
		s := texts[i]
		if len(s) < 5 {
			for _, letter := range "abpABPqQ" {
				texts = append(texts, s+string(letter))
			}
		}
		want, behind := 0, -1
		for end := 1; end <= len(s); end++ {
			if n, there := numbers[s[:end]]; there {
				want, behind = n, end
			}
		}
		checkRead(t, s, 0, want, behind)
	}
}

func TestNumsByHand(t *testing.T) {
	for _, c := range []struct {
		list []int
		want string
	}{
		{nil, ""},
		{[]int{}, ""},
		{[]int{0}, "a"},
		{[]int{0, 0, 0}, "aaa"},
		{[]int{0, 1, 8}, "acAb"},
		{[]int{0, 0, 4}, "aai"},
		{[]int{2, 0, -8}, "eaBb"},
		{[]int{1, -1, 1, -1}, "cdcd"},
		{[]int{8, 8, -8, 128, 0}, "AbAbBbAAba"},
		{[]int{mostNumber, -mostNumber, mostNumber}, "AIEIObBIEIObAIEIOb"},
	} {
		if got := impl.NumsText(c.list); got != c.want {
			t.Errorf("%v: %q, want %q", c.list, got, c.want)
		}
		list, ok := impl.NumsRead(c.want)
		if !ok || !slices.Equal(list, c.list) {
			t.Errorf("%q: %v %v, want %v", c.want, list, ok, c.list)
		}
	}
}

// numberRow is a list of many numbers of all lengths, above and below 0.
func numberRow(count int) []int {
	list := make([]int, count)
	for i := range list {
		list[i] = i * 7919 % (2*mostNumber + 1) >> (i % 21)
		if i%3 == 0 {
			list[i] = -list[i]
		}
		list[i] = max(-mostNumber, min(mostNumber, list[i]))
	}
	return list
}

func TestListsAreReadAsTheyWere(t *testing.T) {
	for _, count := range []int{1, 2, 3, 10, 257, 5000} {
		list := numberRow(count)
		s := impl.NumsText(list)
		var want strings.Builder
		for _, n := range list {
			want.WriteString(numberLetters(n))
		}
		if s != want.String() {
			t.Fatalf("%d numbers are written otherwise", count)
		}
		back, ok := impl.NumsRead(s)
		if !ok || !slices.Equal(back, list) {
			t.Fatalf("%d numbers are read otherwise", count)
		}
		at := 0
		for i, n := range list {
			got, next := impl.NumRead(s, at)
			if got != n || next != at+len(numberLetters(n)) {
				t.Fatalf("number %d of %d: %d %d", i, count, got, next)
			}
			at = next
		}
	}
}

func TestNumsTextWithOnePastTheBounds(t *testing.T) {
	for _, past := range []int{mostNumber + 1, -mostNumber - 1, math.MaxInt, math.MinInt} {
		for _, list := range [][]int{{past}, {past, 0}, {0, past}, {1, 2, past, 3}, {past, past}, append(numberRow(50), past)} {
			if got := impl.NumsText(list); got != "" {
				t.Errorf("%d: %.40q", past, got)
			}
		}
	}
}

func TestNumsReadOfNoNumbers(t *testing.T) {
	for name, s := range noNumbers() {
		if name == "the empty text" {
			continue
		}
		for _, ahead := range []string{"", "a", "acAb", strings.Repeat("a", 100)} {
			for _, behind := range []string{"", ",", "q", "\n"} {
				checkNoNumbers(t, ahead+s+behind)
			}
		}
		checkNoNumbers(t, "a"+s)
	}
}

func TestNumsReadWithABadByteAnywhere(t *testing.T) {
	s := impl.NumsText(numberRow(20))
	for at := 0; at <= len(s); at++ {
		for _, bad := range []string{"q", "Q", " ", "\n", ",", "0", "\x00", "\xff", "\u00e9"} {
			checkNoNumbers(t, s[:at]+bad+s[at:])
		}
	}
}

func TestNumbersAreNewMemory(t *testing.T) {
	first, _ := impl.NumsRead("acAb")
	second, _ := impl.NumsRead("acAb")
	for i := range first {
		first[i] = -5
	}
	// What is written into the spare room of one answer must not be seen in another one.
	first = append(first, 6, 7)
	// Looked at ahead of the next call, which would set right what both share.
	if !slices.Equal(second, []int{0, 1, 8}) || len(first) != 5 {
		t.Error("shared", second)
	}
	if third, ok := impl.NumsRead("acAb"); !ok || !slices.Equal(third, second) {
		t.Error("shared", third)
	}
}

func TestNumsTextWritesNothing(t *testing.T) {
	room := []int{3, -4, 5, 99, -99}
	list := room[:3]
	if impl.NumsText(list) != "gjk" || !slices.Equal(room, []int{3, -4, 5, 99, -99}) {
		t.Error("written", room)
	}
}
