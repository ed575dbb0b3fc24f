package impl

import (
	"iter"
	"slices"
	"strings"
)

// Pos is a place in a text: a line, and how far in it.
type Pos struct {
	Line int
	Col  int
}

// Bounds of texts.
const (
	TextMost = 4000
	TextWide = 120
)

// TextOk says whether a text is one: bytes that can be seen, spaces, and newlines.
func TextOk(s string) bool {
	if len(s) > TextMost {
		return false
	}
	for _, line := range eachLine(s) {
		if len(line) > TextWide || !plainBytes(line) {
			return false
		}
	}
	return true
}

// TextLines is the lines of a text.
func TextLines(s string) []string {
	if !TextOk(s) {
		return nil
	}
	var lines []string
	for _, line := range eachLine(s) {
		lines = append(lines, line)
	}
	return lines
}

// TextJoin is the text of lines.
func TextJoin(lines []string) string {
	return strings.Join(lines, "\n")
}

// PosLess says whether one place is ahead of another one.
func PosLess(a Pos, b Pos) bool {
	if a.Line != b.Line {
		return a.Line < b.Line
	}
	return a.Col < b.Col
}

// PosOf is the place of a byte of a text, and whether there is one.
func PosOf(s string, off int) (Pos, bool) {
	if !TextOk(s) || off < 0 || off > len(s) {
		return Pos{}, false
	}
	begins := lineBegins(s)
	line, exact := slices.BinarySearch(begins, off)
	if !exact {
		// The search tells the first line that begins behind the byte. Line 0 begins at 0, so there is always one ahead of it.
		line--
	}
	return Pos{Line: line, Col: off - begins[line]}, true
}

// PosOff is the byte of a place of a text, and whether there is one.
func PosOff(s string, p Pos) (int, bool) {
	if !TextOk(s) || p.Line < 0 || p.Col < 0 {
		return 0, false
	}
	begins := lineBegins(s)
	// Col is held against the width of the line, not added first: the sum could wrap around.
	if p.Line >= len(begins) || p.Col > lineEnd(s, begins, p.Line)-begins[p.Line] {
		return 0, false
	}
	return begins[p.Line] + p.Col, true
}

// eachLine yields each line of any text, without its newline, and the byte at which it begins.
func eachLine(s string) iter.Seq2[int, string] {
	return func(yield func(int, string) bool) {
		begin := 0
		for i := range len(s) {
			if s[i] != '\n' {
				continue
			}
			if !yield(begin, s[begin:i]) {
				return
			}
			begin = i + 1
		}
		yield(begin, s[begin:])
	}
}

// plainBytes goes by bytes, not by runes: a letter of several bytes must be refused.
func plainBytes(line string) bool {
	for i := range len(line) {
		if line[i] < ' ' || line[i] > '~' {
			return false
		}
	}
	return true
}

// lineBegins is never empty, as the empty text has a line, too.
func lineBegins(s string) []int {
	var begins []int
	for begin := range eachLine(s) {
		begins = append(begins, begin)
	}
	return begins
}

// lineEnd is the last place of a line: that of its newline, which is a byte of the line it ends, or the end of the text.
func lineEnd(s string, begins []int, line int) int {
	if line+1 < len(begins) {
		return begins[line+1] - 1
	}
	return len(s)
}
