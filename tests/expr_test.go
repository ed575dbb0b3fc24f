package tests

import (
	"math"
	"slices"
	"strconv"
	"strings"
	"testing"

	"loop.example/interlinear/impl"
)

// Bounds and kinds are written out here, so that a change of a constant is seen.
const (
	mostParts  = 12
	mostAround = 4
	mostWords  = 40
	numberKind = 1
	nameKind   = 2
	twoKind    = 3
	asKind     = 4
)

// number, name, two and as make parts of each kind, also ones that are not ok.
func number(n int) impl.Expr {
	return impl.Expr{Kind: numberKind, N: n}
}

func name(s string) impl.Expr {
	return impl.Expr{Kind: nameKind, S: s}
}

func two(first impl.Expr, mark string, second impl.Expr) impl.Expr {
	return impl.Expr{Kind: twoKind, S: mark, Kids: []impl.Expr{first, second}}
}

func as(kid impl.Expr, typeName string) impl.Expr {
	return impl.Expr{Kind: asKind, S: typeName, Kids: []impl.Expr{kid}}
}

// sameTree holds two against each other without the program; the empty list and the nil list are one.
func sameTree(a impl.Expr, b impl.Expr) bool {
	return a.Kind == b.Kind && a.N == b.N && a.S == b.S && slices.EqualFunc(a.Kids, b.Kids, sameTree)
}

func isNothing(e impl.Expr) bool {
	return e.Kind == 0 && e.N == 0 && e.S == "" && len(e.Kids) == 0
}

// namesTold are the names that most tests tell, with types and numbers.
func namesTold() ([]string, []string, []int) {
	return []string{"x", "y", "b"}, []string{"int", "int", "bool"}, []int{5, -2, 1}
}

// checkWords looks whether it is ok, has these words, and is read from them.
func checkWords(t *testing.T, e impl.Expr, text string) {
	t.Helper()
	list := strings.Fields(text)
	if !impl.ExprOk(e) {
		t.Errorf("%q is not ok: %v", text, e)
	}
	if got := impl.ExprWords(e); !slices.Equal(got, list) {
		t.Errorf("words %q, want %q", got, list)
	}
	if got, ok := impl.ExprRead(list); !ok || !sameTree(got, e) {
		t.Errorf("%q is read as %v %v, want %v", text, got, ok, e)
	}
}

// checkNotOk looks for the fixed answers to what is not ok.
func checkNotOk(t *testing.T, e impl.Expr) {
	t.Helper()
	names, types, nums := namesTold()
	if impl.ExprOk(e) {
		t.Errorf("ok: %v", e)
	}
	if list := impl.ExprWords(e); len(list) != 0 {
		t.Errorf("words %q of %v", list, e)
	}
	if bare := impl.ExprBare(e); !isNothing(bare) {
		t.Errorf("bare %v of %v", bare, e)
	}
	if typeName := impl.ExprType(e, names, types); typeName != "" {
		t.Errorf("type %q of %v", typeName, e)
	}
	if n, ok := impl.ExprOf(e, names, nums); ok || n != 0 {
		t.Errorf("%v comes to %d %v", e, n, ok)
	}
}

func checkNotRead(t *testing.T, list ...string) {
	t.Helper()
	if e, ok := impl.ExprRead(list); ok || !isNothing(e) {
		t.Errorf("%.20q is read as %v %v", list, e, ok)
	}
}

func checkType(t *testing.T, e impl.Expr, names []string, types []string, want string) {
	t.Helper()
	if got := impl.ExprType(e, names, types); got != want {
		t.Errorf("%v with %q, %q: type %q, want %q", e, names, types, got, want)
	}
}

func checkOf(t *testing.T, e impl.Expr, names []string, nums []int, want int) {
	t.Helper()
	if got, ok := impl.ExprOf(e, names, nums); !ok || got != want {
		t.Errorf("%v with %q, %v: %d %v, want %d", e, names, nums, got, ok, want)
	}
}

func checkNotReckoned(t *testing.T, e impl.Expr, names []string, nums []int) {
	t.Helper()
	if got, ok := impl.ExprOf(e, names, nums); ok || got != 0 {
		t.Errorf("%v with %q, %v: %d %v", e, names, nums, got, ok)
	}
}

func TestBoundsOfParts(t *testing.T) {
	if impl.ExprSize != mostParts || impl.ExprDeep != mostAround+1 {
		t.Error("bounds", impl.ExprSize, impl.ExprDeep)
	}
	if impl.ExprNum != numberKind || impl.ExprName != nameKind || impl.ExprTwo != twoKind || impl.ExprAs != asKind {
		t.Error("kinds", impl.ExprNum, impl.ExprName, impl.ExprTwo, impl.ExprAs)
	}
}

// Parts beside all that is told of them, by hand; names, types and numbers are those of namesTold.
func TestPartsByHand(t *testing.T) {
	x, y, b := name("x"), name("y"), name("b")
	one, three := number(1), number(3)
	sum := two(x, "+", one)
	for _, c := range []struct {
		e        impl.Expr
		words    string
		bare     string
		typeName string
		comesTo  int
	}{
		{number(7), "7", "7", "int", 7},
		{x, "x", "x", "int", 5},
		{b, "b", "b", "bool", 1},
		{two(x, "+", y), "x + y", "x + y", "int", 3},
		{two(x, "-", y), "x - y", "x - y", "int", 7},
		{two(x, "*", y), "x * y", "x * y", "int", -10},
		{two(x, "<", y), "x < y", "x < y", "bool", 0},
		{two(y, "<", x), "y < x", "y < x", "bool", 1},
		{two(x, "<", x), "x < x", "x < x", "bool", 0},
		{as(x, "int"), "x as int", "x", "int", 5},
		{as(x, "bool"), "x as bool", "x", "bool", 5},
		{as(b, "int"), "b as int", "b", "int", 1},
		{as(three, "bool"), "3 as bool", "3", "bool", 3},
		{as(as(x, "bool"), "int"), "x as bool as int", "x", "int", 5},
		{as(as(x, "int"), "bool"), "x as int as bool", "x", "bool", 5},
		{as(as(as(x, "int"), "int"), "int"), "x as int as int as int", "x", "int", 5},
		{as(sum, "int"), "( x + 1 ) as int", "x + 1", "int", 6},
		{as(two(x, "*", y), "bool"), "( x * y ) as bool", "x * y", "bool", -10},
		{as(two(y, "<", x), "int"), "( y < x ) as int", "y < x", "int", 1},
		{two(as(sum, "int"), "*", number(2)), "( x + 1 ) as int * 2", "( x + 1 ) * 2", "int", 12},
		{two(as(two(x, "*", one), "int"), "*", number(2)), "( x * 1 ) as int * 2", "x * 1 * 2", "int", 10},
		{two(number(2), "*", as(two(x, "*", one), "int")), "2 * ( x * 1 ) as int", "2 * ( x * 1 )", "int", 10},
		{two(number(2), "*", as(x, "int")), "2 * x as int", "2 * x", "int", 10},
		{two(as(x, "int"), "-", as(y, "int")), "x as int - y as int", "x - y", "int", 7},
		{two(as(x, "bool"), "+", one), "x as bool + 1", "x + 1", "", 6},
		{two(one, "+", as(x, "bool")), "1 + x as bool", "1 + x", "", 6},
		{two(as(b, "int"), "+", one), "b as int + 1", "b + 1", "int", 2},
		{two(b, "+", one), "b + 1", "b + 1", "", 2},
		{two(one, "<", b), "1 < b", "1 < b", "", 0},
		{two(two(x, "<", y), "+", one), "( x < y ) + 1", "( x < y ) + 1", "", 1},
		{two(as(two(x, "<", y), "int"), "+", one), "( x < y ) as int + 1", "( x < y ) + 1", "int", 1},
		{as(two(b, "+", one), "int"), "( b + 1 ) as int", "b + 1", "", 2},
		{two(one, "+", two(number(2), "*", three)), "1 + 2 * 3", "1 + 2 * 3", "int", 7},
		{two(two(one, "+", number(2)), "*", three), "( 1 + 2 ) * 3", "( 1 + 2 ) * 3", "int", 9},
		{two(two(x, "-", y), "-", one), "x - y - 1", "x - y - 1", "int", 6},
		{two(x, "-", two(y, "-", one)), "x - ( y - 1 )", "x - ( y - 1 )", "int", 8},
		{two(as(two(x, "-", y), "int"), "-", one), "( x - y ) as int - 1", "x - y - 1", "int", 6},
		{two(x, "-", as(two(y, "-", one), "int")), "x - ( y - 1 ) as int", "x - ( y - 1 )", "int", 8},
		{two(two(x, "+", y), "<", two(x, "*", y)), "x + y < x * y", "x + y < x * y", "bool", 0},
		{as(two(as(two(x, "+", y), "int"), "<", as(one, "int")), "int"), "( ( x + y ) as int < 1 as int ) as int", "x + y < 1", "int", 0},
	} {
		names, types, nums := namesTold()
		checkWords(t, c.e, c.words)
		bare := impl.ExprBare(c.e)
		checkWords(t, bare, c.bare)
		checkType(t, c.e, names, types, c.typeName)
		checkOf(t, c.e, names, nums, c.comesTo)
		checkOf(t, bare, names, nums, c.comesTo)
	}
}

// bracketRows are each mark as the first and as the second kid of each mark, with the brackets that the document asks.
var bracketRows = []struct{ inner, outer, first, second string }{
	{"<", "<", "( a < b ) < c", "a < ( b < c )"},
	{"+", "<", "a + b < c", "a < b + c"},
	{"-", "<", "a - b < c", "a < b - c"},
	{"*", "<", "a * b < c", "a < b * c"},
	{"<", "+", "( a < b ) + c", "a + ( b < c )"},
	{"+", "+", "a + b + c", "a + ( b + c )"},
	{"-", "+", "a - b + c", "a + ( b - c )"},
	{"*", "+", "a * b + c", "a + b * c"},
	{"<", "-", "( a < b ) - c", "a - ( b < c )"},
	{"+", "-", "a + b - c", "a - ( b + c )"},
	{"-", "-", "a - b - c", "a - ( b - c )"},
	{"*", "-", "a * b - c", "a - b * c"},
	{"<", "*", "( a < b ) * c", "a * ( b < c )"},
	{"+", "*", "( a + b ) * c", "a * ( b + c )"},
	{"-", "*", "( a - b ) * c", "a * ( b - c )"},
	{"*", "*", "a * b * c", "a * ( b * c )"},
}

func TestBracketsOfEachMarkWithinEachMark(t *testing.T) {
	a, b, c := name("a"), name("b"), name("c")
	for _, row := range bracketRows {
		checkWords(t, two(two(a, row.inner, b), row.outer, c), row.first)
		checkWords(t, two(a, row.outer, two(b, row.inner, c)), row.second)
		// A part as of a type needs no brackets, whatever it is beside.
		checkWords(t, two(as(two(a, row.inner, b), "int"), row.outer, c), "( a "+row.inner+" b ) as int "+row.outer+" c")
		checkWords(t, two(a, row.outer, as(two(b, row.inner, c), "bool")), "a "+row.outer+" ( b "+row.inner+" c ) as bool")
	}
	for _, mark := range []string{"<", "+", "-", "*"} {
		checkWords(t, as(two(a, mark, b), "int"), "( a "+mark+" b ) as int")
		checkWords(t, as(two(a, mark, b), "bool"), "( a "+mark+" b ) as bool")
		checkWords(t, as(as(two(a, mark, b), "int"), "bool"), "( a "+mark+" b ) as int as bool")
		checkWords(t, two(as(a, "int"), mark, b), "a as int "+mark+" b")
		checkWords(t, two(a, mark, as(b, "int")), "a "+mark+" b as int")
		checkWords(t, two(number(1), mark, number(2)), "1 "+mark+" 2")
	}
}

func TestNumbersOfParts(t *testing.T) {
	for _, n := range []int{0, 1, 9, 10, 99, 100, 999999, mostNumber} {
		checkWords(t, number(n), strconv.Itoa(n))
		checkWords(t, two(number(n), "+", number(n)), strconv.Itoa(n)+" + "+strconv.Itoa(n))
		checkOf(t, number(n), nil, nil, n)
		checkType(t, number(n), nil, nil, "int")
	}
	for _, n := range []int{mostNumber + 1, 10 * mostNumber, -1, -mostNumber, math.MinInt, math.MaxInt, 1 << 32, 1<<32 + 1} {
		checkNotOk(t, number(n))
		checkNotOk(t, two(number(1), "+", number(n)))
		checkNotOk(t, as(number(n), "int"))
		checkNotRead(t, strconv.Itoa(n))
		checkNotRead(t, "1", "+", strconv.Itoa(n))
	}
	for _, word := range []string{"00", "01", "+1", "1.0", "0x1", "1_0", " 1", "1 ", "-0"} {
		checkNotRead(t, word)
		checkNotRead(t, "x", "*", word)
	}
}

func TestNamesOfParts(t *testing.T) {
	for _, s := range []string{"a", "z", "x", "abcdefgh", "zzzzzzzz", "lets", "le", "ass", "a", "ints", "boolean", "prints", "iff", "i", "then", "else", "true"} {
		checkWords(t, name(s), s)
		checkWords(t, as(name(s), "bool"), s+" as bool")
		checkOf(t, name(s), []string{s}, []int{3}, 3)
	}
	for _, s := range []string{
		"let", "say", "when", "as", "print", "if", "int", "bool",
		"", "abcdefghi", strings.Repeat("a", 5000), "X", "xY", "x1", "1x", "x ", " x", "a b", "+", "(", ":", "=", "1", "_", "\u00e9", "\xff", "\x00", "x\n",
	} {
		checkNotOk(t, name(s))
		checkNotOk(t, as(name(s), "int"))
		checkNotOk(t, two(name(s), "+", number(1)))
		checkNotOk(t, two(number(1), "+", name(s)))
		if s != "1" {
			checkNotRead(t, s)
			checkNotRead(t, s, "as", "int")
			checkNotRead(t, "2", "*", s)
			checkNotRead(t, s, "*", "2")
		}
		// Also if it is told, a word that is no name has no type and no number.
		checkType(t, name(s), []string{s}, []string{"int"}, "")
		checkNotReckoned(t, name(s), []string{s}, []int{1})
	}
}

// balanced has 2 to the power of levels, less 1, parts; the deepest have levels - 1 others around them.
func balanced(levels int, mark string) impl.Expr {
	if levels == 1 {
		return name("x")
	}
	return two(balanced(levels-1, mark), mark, balanced(levels-1, mark))
}

func TestSizeOfParts(t *testing.T) {
	seven, five := balanced(3, "+"), two(as(name("x"), "int"), "+", as(number(1), "int"))
	eleven := two(seven, "+", two(name("x"), "*", name("y")))
	checkWords(t, eleven, "x + x + ( x + x ) + x * y")
	checkWords(t, as(eleven, "int"), "( x + x + ( x + x ) + x * y ) as int")
	checkNotOk(t, as(as(eleven, "int"), "int"))
	checkWords(t, two(seven, "+", as(two(name("x"), "*", name("y")), "int")), "x + x + ( x + x ) + ( x * y ) as int")
	checkNotOk(t, two(seven, "+", five))
	checkNotOk(t, two(five, "-", seven))
	checkNotRead(t, strings.Fields("x + x + ( x + x ) + ( x as int + 1 as int )")...)
	checkNotOk(t, balanced(4, "+"))
	checkNotOk(t, balanced(5, "*"))
	// Twelve parts and one more, with four others around the deepest of them.
	left := as(two(as(name("x"), "int"), "+", number(1)), "int")
	checkWords(t, two(left, "*", two(two(number(2), "-", number(3)), "*", as(name("y"), "int"))), "( x as int + 1 ) as int * ( ( 2 - 3 ) * y as int )")
	checkNotOk(t, two(left, "*", two(two(number(2), "-", as(number(3), "int")), "*", as(name("y"), "int"))))
	checkNotRead(t, strings.Fields("( x as int + 1 ) as int * ( ( 2 - 3 as int ) * y as int )")...)
}

// within puts a part into others, one around the other, in one of three ways.
func within(way string, e impl.Expr, around int) impl.Expr {
	for range around {
		switch way {
		case "as":
			e = as(e, "int")
		case "first":
			e = two(e, "+", number(1))
		case "second":
			e = two(number(1), "+", e)
		}
	}
	return e
}

func TestDepthOfParts(t *testing.T) {
	for _, c := range []struct{ way, text, deeper string }{
		{"as", "x as int as int as int as int", "x as int as int as int as int as int"},
		{"first", "x + 1 + 1 + 1 + 1", "x + 1 + 1 + 1 + 1 + 1"},
		{"second", "1 + ( 1 + ( 1 + ( 1 + x ) ) )", "1 + ( 1 + ( 1 + ( 1 + ( 1 + x ) ) ) )"},
	} {
		checkWords(t, within(c.way, name("x"), mostAround), c.text)
		checkNotRead(t, strings.Fields(c.deeper)...)
		for around := range 40 {
			e := within(c.way, name("x"), around)
			if around > mostAround {
				checkNotOk(t, e)
			} else if !impl.ExprOk(e) {
				t.Error("not ok:", c.way, around)
			}
		}
	}
	checkNotOk(t, within("as", name("x"), 100000))
	checkNotOk(t, within("first", name("x"), 100000))
	// Only one of the parts is too deep, and the size alone would do.
	checkNotOk(t, two(number(1), "+", within("as", name("x"), mostAround)))
	checkNotOk(t, two(within("second", name("x"), mostAround), "+", number(1)))
}

// Twelve parts have at most 23 words, so the bound of words is never what refuses a list; what is at it and past it is not read.
func TestManyWords(t *testing.T) {
	for _, text := range []string{
		"x" + strings.Repeat(" + 1", 19), "x" + strings.Repeat(" as int", 19), "x" + strings.Repeat(" * 2", 20), "x" + strings.Repeat(" as bool", 20),
		strings.Repeat("( ", 19) + "x" + strings.Repeat(" )", 19), strings.Repeat("( ", 20) + "x" + strings.Repeat(" )", 20),
		strings.Repeat("( x + ", 9) + "x" + strings.Repeat(" )", 9) + " as int", strings.Repeat("( ", 40), strings.Repeat("x ", 41),
	} {
		checkNotRead(t, strings.Fields(text)...)
	}
	for size := range 120 {
		list := strings.Fields("x" + strings.Repeat(" + 1", 60))[:size]
		if e, ok := impl.ExprRead(list); ok != (size%2 == 1 && size <= 2*mostAround+1) || !ok && !isNothing(e) {
			t.Errorf("%d words: %v %v", size, e, ok)
		}
	}
	for _, size := range []int{mostWords - 1, mostWords, mostWords + 1, 1000, 1000000} {
		checkNotRead(t, slices.Repeat([]string{"("}, size)...)
		checkNotRead(t, slices.Repeat([]string{"x"}, size)...)
		checkNotRead(t, append([]string{"x"}, slices.Repeat([]string{"as", "int"}, size/2)...)...)
	}
}

// badParts are no parts that can be reckoned, each for one reason.
func badParts() map[string]impl.Expr {
	x, one := name("x"), number(1)
	return map[string]impl.Expr{
		"nothing":                         {},
		"a kind below":                    {Kind: -1},
		"a kind behind the last":          {Kind: 5, N: 1},
		"a kind behind, with kids":        {Kind: 5, S: "+", Kids: []impl.Expr{x, one}},
		"a kind of 32 bits more":          {Kind: 1<<32 + numberKind, N: 1},
		"a kind of 8 bits more":           {Kind: 256 + nameKind, S: "x"},
		"the least kind":                  {Kind: math.MinInt, S: "x"},
		"the greatest kind":               {Kind: math.MaxInt, S: "x"},
		"no kind, but a name":             {S: "x"},
		"no kind, but kids":               {Kids: []impl.Expr{x}},
		"a number with a name":            {Kind: numberKind, N: 1, S: "x"},
		"a number with a mark":            {Kind: numberKind, N: 1, S: "+"},
		"a number with its decimals":      {Kind: numberKind, N: 1, S: "1"},
		"a number with a kid":             {Kind: numberKind, N: 1, Kids: []impl.Expr{x}},
		"a number with kids":              {Kind: numberKind, N: 1, Kids: []impl.Expr{x, x}},
		"a number with a kid of nothing":  {Kind: numberKind, Kids: []impl.Expr{{}}},
		"a name with a number":            {Kind: nameKind, S: "x", N: 1},
		"a name with a number below 0":    {Kind: nameKind, S: "x", N: -1},
		"a name with a kid":               {Kind: nameKind, S: "x", Kids: []impl.Expr{one}},
		"a name with a kid of nothing":    {Kind: nameKind, S: "x", Kids: []impl.Expr{{}}},
		"a name that is none":             {Kind: nameKind},
		"two with a number":               {Kind: twoKind, N: 1, S: "+", Kids: []impl.Expr{x, one}},
		"two with a number below 0":       {Kind: twoKind, N: -1, S: "+", Kids: []impl.Expr{x, one}},
		"two with no mark":                {Kind: twoKind, Kids: []impl.Expr{x, one}},
		"two with a bracket":              {Kind: twoKind, S: "(", Kids: []impl.Expr{x, one}},
		"two with a colon":                {Kind: twoKind, S: ":", Kids: []impl.Expr{x, one}},
		"two with a mark of lines":        {Kind: twoKind, S: "=", Kids: []impl.Expr{x, one}},
		"two with a mark that is none":    {Kind: twoKind, S: ">", Kids: []impl.Expr{x, one}},
		"two with two marks":              {Kind: twoKind, S: "+-", Kids: []impl.Expr{x, one}},
		"two with a mark and a space":     {Kind: twoKind, S: "+ ", Kids: []impl.Expr{x, one}},
		"two with a name":                 {Kind: twoKind, S: "x", Kids: []impl.Expr{x, one}},
		"two with a type":                 {Kind: twoKind, S: "int", Kids: []impl.Expr{x, one}},
		"two with the word as":            {Kind: twoKind, S: "as", Kids: []impl.Expr{x, one}},
		"two with no kids":                {Kind: twoKind, S: "+"},
		"two with one kid":                {Kind: twoKind, S: "+", Kids: []impl.Expr{x}},
		"two with three kids":             {Kind: twoKind, S: "+", Kids: []impl.Expr{x, one, x}},
		"two with three, the last none":   {Kind: twoKind, S: "+", Kids: []impl.Expr{x, one, {}}},
		"two whose first kid is none":     {Kind: twoKind, S: "+", Kids: []impl.Expr{{}, one}},
		"two whose second kid is none":    {Kind: twoKind, S: "+", Kids: []impl.Expr{x, {}}},
		"two with a thousand kids":        {Kind: twoKind, S: "+", Kids: make([]impl.Expr, 1000)},
		"as with a number":                {Kind: asKind, N: 1, S: "int", Kids: []impl.Expr{x}},
		"as with a number below 0":        {Kind: asKind, N: -1, S: "int", Kids: []impl.Expr{x}},
		"as with no type":                 {Kind: asKind, Kids: []impl.Expr{x}},
		"as with a type that is none":     {Kind: asKind, S: "text", Kids: []impl.Expr{x}},
		"as with a name":                  {Kind: asKind, S: "x", Kids: []impl.Expr{x}},
		"as with a great letter":          {Kind: asKind, S: "Int", Kids: []impl.Expr{x}},
		"as with a type and a space":      {Kind: asKind, S: "int ", Kids: []impl.Expr{x}},
		"as with two types":               {Kind: asKind, S: "int bool", Kids: []impl.Expr{x}},
		"as with a mark":                  {Kind: asKind, S: "+", Kids: []impl.Expr{x}},
		"as with no kid":                  {Kind: asKind, S: "int"},
		"as with two kids":                {Kind: asKind, S: "int", Kids: []impl.Expr{x, one}},
		"as with two, the second none":    {Kind: asKind, S: "int", Kids: []impl.Expr{x, {}}},
		"as whose kid is none":            {Kind: asKind, S: "int", Kids: []impl.Expr{{}}},
		"as with a kid of a kind of none": {Kind: asKind, S: "int", Kids: []impl.Expr{{Kind: 9, N: 1}}},
	}
}

func TestBadParts(t *testing.T) {
	x, one := name("x"), number(1)
	for why, bad := range badParts() {
		t.Run(why, func(t *testing.T) {
			for _, e := range []impl.Expr{
				bad, as(bad, "int"), two(bad, "+", one), two(one, "<", bad), two(bad, "*", bad),
				as(two(as(x, "int"), "*", as(bad, "bool")), "int"), two(two(two(x, "+", bad), "-", one), "<", x),
			} {
				checkNotOk(t, e)
			}
		})
	}
}

// A kid list that is empty, but not nil, is as good as none, and room behind kids does not count.
func TestEmptyKids(t *testing.T) {
	room := []impl.Expr{name("x"), number(1), number(2)}
	checkWords(t, impl.Expr{Kind: numberKind, N: 4, Kids: []impl.Expr{}}, "4")
	checkWords(t, impl.Expr{Kind: nameKind, S: "x", Kids: room[:0]}, "x")
	checkWords(t, impl.Expr{Kind: twoKind, S: "-", Kids: room[:2]}, "x - 1")
	checkWords(t, impl.Expr{Kind: asKind, S: "bool", Kids: room[1:2]}, "1 as bool")
}

func TestWordsThatAreNotRead(t *testing.T) {
	checkNotRead(t)
	for _, text := range []string{
		// Words that end ahead of a part.
		"1 +", "x -", "x *", "1 <", "+", "-", "*", "<", "1 + 2 *", "x as", "as", "as int", "int", "bool", "(", "( (", "( 1 +", "1 + (",
		"x as int as", "x + y as", "+ 1", "- 1", "* x", "< x", "1 + + 2", "1 - - 2", "x * * y", "1 < < 2", "1 + * 2", "x - ( - 1 )",
		// Words behind the last part.
		"1 2", "x y", "1 x", "x 1", "1 + 2 3", "x as int int", "x as int y", "x as int 1", "1 ( 2 + 3 )", "x ( y )", "( x + 1 ) 2", "( x + 1 ) * 2 x",
		"1 + 2 =", "x :", "x : int", "x =", "x = 1", "1 + 2 say", "x let", "1 + 2 when", "x if", "x print", "x say y",
		// Brackets that do not close, or were not opened.
		"( 1 + 2", "( ( 1 + 2 ) * 3", "1 + 2 )", ")", ") 1", "( )", "x * ( 1 + 2", "x * 1 + 2 )", "( 1 + 2 ) ) * 3", "( 1 + 2 * 3", ") 1 + 2 (",
		"( x + 1 as int", "x + 1 ) as int", "( x + 1 ) as int )", "( 1 ( 2", "( x + ) 1", "x ( + ) 1", "( x ) + ( ) 1",
		// Brackets that are not needed.
		"( 1 )", "( x )", "( ( x ) )", "( x as int )", "( x + 1 )", "( x < 1 )", "( 1 * 2 ) + 3", "1 + ( 2 * 3 )", "( 1 + 2 ) + 3", "( 1 - 2 ) - 3",
		"( 1 + 2 ) < 3", "1 < ( 2 + 3 )", "1 < ( 2 * 3 )", "( 1 * 2 ) < 3", "( 1 * 2 ) * 3", "( x ) as int", "( x as int ) as int", "( x as int ) + 1",
		"1 + ( x as int )", "( x ) * 2", "2 * ( x )", "2 * ( 3 )", "( ( 1 + 2 ) ) * 3", "( ( 1 + 2 ) * 3 )", "( ( x + 1 ) ) as int", "( ( x + 1 ) as int )",
		"x - ( ( y - 1 ) )", "( x - ( y - 1 ) )", "1 - ( 2 * 3 )", "( x + 1 ) as int * ( 2 )", "( x + y ) - 1",
		// Brackets that are needed, and are not there.
		"1 < 2 < 3", "x < y < 1 < 2", "1 + 2 < 3 < 4", "1 < 2 + 3 < 4", "x + 1 < 2 as bool < 3",
		// Types that are none, and types that stand alone.
		"x as y", "x as 1", "x as as", "x as let", "x as (", "x as ( int )", "x as int + as", "( x + 1 ) as x", "as as as", "int as int", "x as as int",
		"bool + 1", "1 + int", "x int", "x as ints", "x as boo",
		// Words that are no parts.
		"let", "say", "when", "print", "if", "let x : int = 1", "say x", "1 + say", "if + 1", "print * 2", "x = y", ":", "=", "1 : 2", "x = 1 + 2",
	} {
		checkNotRead(t, strings.Fields(text)...)
	}
}

// Words of no kind, each in the place of each word of good ones, ahead of them and behind them.
func TestWordsOfNoKindAreNotRead(t *testing.T) {
	good := strings.Fields("( x + 1 ) as int * 2")
	if _, ok := impl.ExprRead(good); !ok {
		t.Fatal(good)
	}
	for _, bad := range badWords() {
		checkNotRead(t, bad)
		for at := range len(good) + 1 {
			checkNotRead(t, slices.Insert(slices.Clone(good), at, bad)...)
			if at < len(good) {
				changed := slices.Clone(good)
				changed[at] = bad
				checkNotRead(t, changed...)
			}
		}
	}
	// Each word is one, and not a text of several.
	for _, list := range [][]string{{"x + 1"}, {"x", "+ 1"}, {"x +", "1"}, {"x", "as int"}, {"x as", "int"}, {"(x", "+", "1)", "as", "int"}, {"", "x"}, {"x", ""}, {""}, {"", ""}, {"x", "+", "", "1"}} {
		checkNotRead(t, list...)
	}
}

func TestTypesOfNames(t *testing.T) {
	x, y, z := name("x"), name("y"), name("z")
	// What is told of a name last counts.
	checkType(t, x, []string{"x", "x"}, []string{"int", "bool"}, "bool")
	checkType(t, x, []string{"x", "x"}, []string{"bool", "int"}, "int")
	checkType(t, x, []string{"x", "y", "x", "y"}, []string{"bool", "int", "int", "bool"}, "int")
	checkType(t, y, []string{"x", "y", "x", "y"}, []string{"bool", "int", "int", "bool"}, "bool")
	checkType(t, two(x, "+", number(1)), []string{"x", "x"}, []string{"int", "bool"}, "")
	checkType(t, two(x, "+", number(1)), []string{"x", "x"}, []string{"bool", "int"}, "int")
	// A name that is none of the names has no type, nor has what it is in.
	checkType(t, z, []string{"x", "y"}, []string{"int", "int"}, "")
	checkType(t, z, nil, nil, "")
	checkType(t, z, []string{"Z", "zz", "", "z "}, []string{"int", "int", "int", "int"}, "")
	for _, e := range []impl.Expr{as(z, "int"), as(as(z, "int"), "bool"), two(z, "+", x), two(x, "<", z), two(as(z, "int"), "*", x), two(x, "-", as(z, "int"))} {
		checkType(t, e, []string{"x", "y"}, []string{"int", "int"}, "")
		checkType(t, e, []string{"x", "z"}, []string{"int", "int"}, impl.ExprType(e, []string{"z", "x"}, []string{"int", "int"}))
	}
	// Names that are told need not be used, nor be names.
	checkType(t, x, []string{"let", "", "x", "\xff", "1"}, []string{"bool", "bool", "int", "bool", "bool"}, "int")
}

func TestTypesOfEachMark(t *testing.T) {
	names, types := []string{"i", "b"}, []string{"int", "bool"}
	parts := map[string][]impl.Expr{
		"int":  {number(0), name("i"), as(name("b"), "int"), as(as(name("i"), "bool"), "int"), two(name("i"), "*", number(2)), as(two(number(1), "<", number(2)), "int")},
		"bool": {name("b"), as(number(0), "bool"), as(as(name("b"), "int"), "bool"), two(name("i"), "<", number(2))},
		"":     {name("z"), as(name("z"), "int"), two(name("b"), "+", number(1)), as(two(name("b"), "<", number(1)), "int")},
	}
	for first, ones := range parts {
		for second, others := range parts {
			for mark, result := range map[string]string{"+": "int", "-": "int", "*": "int", "<": "bool"} {
				for _, a := range ones {
					for _, b := range others {
						want := result
						if first != "int" || second != "int" {
							want = ""
						}
						checkType(t, two(a, mark, b), names, types, want)
					}
				}
			}
		}
		for _, e := range ones {
			checkType(t, e, names, types, first)
			for _, typeName := range []string{"int", "bool"} {
				want := typeName
				if first == "" {
					want = ""
				}
				checkType(t, as(e, typeName), names, types, want)
			}
		}
	}
}

// Lists of other lengths, or a type that is none, leave no type of anything, also of what uses no name.
func TestTypesThatAreNotTold(t *testing.T) {
	for _, e := range []impl.Expr{number(1), name("x"), two(number(1), "<", number(2)), as(number(1), "bool")} {
		for _, c := range []struct{ names, types []string }{
			{[]string{"x"}, nil}, {nil, []string{"int"}}, {[]string{"x"}, []string{"int", "int"}}, {[]string{"x", "y"}, []string{"int"}}, {[]string{"x", "x", "x"}, []string{"int", "int"}},
			{[]string{"x"}, []string{""}}, {[]string{"x"}, []string{"text"}}, {[]string{"x"}, []string{"Int"}}, {[]string{"x"}, []string{"int "}}, {[]string{"x"}, []string{"x"}},
			{[]string{"x", "y"}, []string{"int", "none"}}, {[]string{"y", "x"}, []string{"none", "int"}}, {[]string{"x", "y", "x"}, []string{"int", "", "int"}},
			{[]string{"x", "x"}, []string{"none", "int"}}, {[]string{"x", "x"}, []string{"int", "none"}}, {[]string{"a", "b"}, []string{"int", "bools"}}, {[]string{"int"}, []string{"as"}},
		} {
			checkType(t, e, c.names, c.types, "")
		}
		if e.Kind != nameKind && impl.ExprType(e, []string{"a", "b"}, []string{"int", "bool"}) == "" {
			t.Error("no type", e)
		}
	}
}

func TestNumbersOfNames(t *testing.T) {
	x, y, z := name("x"), name("y"), name("z")
	checkOf(t, x, []string{"x", "x"}, []int{1, 2}, 2)
	checkOf(t, x, []string{"x", "y", "x", "y"}, []int{1, 2, 3, 4}, 3)
	checkOf(t, y, []string{"x", "y", "x", "y"}, []int{1, 2, 3, 4}, 4)
	checkOf(t, two(x, "-", y), []string{"y", "x", "y"}, []int{7, 5, 2}, 3)
	checkOf(t, x, []string{"let", "", "x", "\xff"}, []int{9, 9, 4, 9}, 4)
	// The number of a name is cut, too.
	for n, want := range map[int]int{
		mostNumber: mostNumber, mostNumber + 1: mostNumber, math.MaxInt: mostNumber, 1 << 32: mostNumber,
		-mostNumber: -mostNumber, -mostNumber - 1: -mostNumber, math.MinInt: -mostNumber, -1 << 32: -mostNumber, 0: 0, -1: -1, mostNumber - 1: mostNumber - 1, 1 - mostNumber: 1 - mostNumber,
	} {
		checkOf(t, x, []string{"x"}, []int{n}, want)
		checkOf(t, as(x, "bool"), []string{"x"}, []int{n}, want)
		checkOf(t, two(x, "+", number(0)), []string{"x"}, []int{n}, want)
		checkOf(t, two(x, "-", x), []string{"x"}, []int{n}, 0)
	}
	checkOf(t, two(x, "-", number(1)), []string{"x"}, []int{math.MaxInt}, mostNumber-1)
	checkOf(t, two(x, "<", y), []string{"x", "y"}, []int{mostNumber + 1, math.MaxInt}, 0)
	checkOf(t, two(x, "<", y), []string{"x", "y"}, []int{math.MinInt, -mostNumber}, 0)
	checkOf(t, two(x, "<", y), []string{"x", "y"}, []int{math.MinInt, math.MaxInt}, 1)
	// Each name must be told, also one that changes nothing.
	for _, e := range []impl.Expr{z, as(z, "int"), two(z, "+", x), two(x, "+", z), two(number(0), "*", z), two(z, "*", number(0)), two(z, "<", z), two(x, "-", as(two(y, "+", z), "int"))} {
		checkNotReckoned(t, e, []string{"x", "y"}, []int{1, 2})
		checkNotReckoned(t, e, nil, nil)
		checkNotReckoned(t, e, []string{"x", "y", "zz", "Z", ""}, []int{1, 2, 3, 4, 5})
	}
	for _, e := range []impl.Expr{number(1), x, two(x, "+", number(1)), as(number(1), "int")} {
		checkNotReckoned(t, e, []string{"x"}, nil)
		checkNotReckoned(t, e, nil, []int{1})
		checkNotReckoned(t, e, []string{"x"}, []int{1, 2})
		checkNotReckoned(t, e, []string{"x", "x"}, []int{1})
	}
	checkOf(t, two(number(1), "+", number(2)), nil, nil, 3)
	checkOf(t, two(number(1), "+", number(2)), []string{}, []int{}, 3)
}

func TestSumsAreCut(t *testing.T) {
	x, y := name("x"), name("y")
	const most = mostNumber
	for _, c := range []struct {
		x    int
		mark string
		y    int
		want int
	}{
		{most - 1, "+", 1, most}, {most, "+", 0, most}, {most, "+", 1, most}, {most, "+", most, most}, {most / 2, "+", most / 2, most}, {most / 2, "+", most/2 + 1, most},
		{1 - most, "+", -1, -most}, {-most, "+", -1, -most}, {-most, "+", -most, -most}, {-most, "+", most, 0}, {most, "+", -1, most - 1},
		{1 - most, "-", 1, -most}, {-most, "-", 1, -most}, {-most, "-", most, -most}, {0, "-", most, -most}, {-1, "-", most, -most}, {-1, "-", most - 1, -most},
		{most, "-", -1, most}, {most, "-", -most, most}, {most - 1, "-", -1, most}, {0, "-", -most, most}, {most, "-", most, 0}, {-most, "-", -1, 1 - most},
		{1000, "*", 1000, most}, {1000, "*", 1001, most}, {999, "*", 1001, 999999}, {most, "*", 1, most}, {most, "*", 2, most}, {most, "*", most, most}, {-most, "*", -most, most},
		{-1000, "*", 1000, -most}, {1001, "*", -1000, -most}, {most, "*", -1, -most}, {most, "*", -2, -most}, {most, "*", -most, -most}, {most, "*", 0, 0}, {-most, "*", 0, 0},
		{65536, "*", 65536, most}, {-65536, "*", 65536, -most}, {46341, "*", 46341, most}, {-1, "*", -1, 1}, {-3, "*", 4, -12},
		{most, "<", most, 0}, {most - 1, "<", most, 1}, {-most, "<", most, 1}, {most, "<", -most, 0}, {-most, "<", 1 - most, 1}, {-1, "<", 0, 1}, {0, "<", -1, 0}, {0, "<", 0, 0},
	} {
		checkOf(t, two(x, c.mark, y), []string{"x", "y"}, []int{c.x, c.y}, c.want)
		checkOf(t, two(as(x, "bool"), c.mark, as(y, "int")), []string{"x", "y"}, []int{c.x, c.y}, c.want)
	}
	// Each sum is cut where it is, and not only at the end.
	big := number(most)
	checkOf(t, two(two(big, "+", big), "-", big), nil, nil, 0)
	checkOf(t, two(big, "+", two(big, "-", big)), nil, nil, most)
	checkOf(t, two(two(big, "*", number(3)), "-", number(1)), nil, nil, most-1)
	checkOf(t, two(two(two(number(0), "-", big), "-", big), "+", big), nil, nil, 0)
	checkOf(t, two(as(two(big, "+", number(1)), "bool"), "-", number(2)), nil, nil, most-2)
	checkOf(t, two(two(big, "+", number(1)), "<", two(big, "+", number(2))), nil, nil, 0)
	checkOf(t, balancedOf(3, "*", big), nil, nil, most)
	checkOf(t, two(two(big, "*", big), "*", two(big, "*", two(number(0), "-", big))), nil, nil, -most)
}

// balancedOf is balanced, with another part in the place of each name.
func balancedOf(levels int, mark string, e impl.Expr) impl.Expr {
	if levels == 1 {
		return e
	}
	return two(balancedOf(levels-1, mark, e), mark, balancedOf(levels-1, mark, e))
}
