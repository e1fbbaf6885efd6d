package glyph

import (
	"math"
	"strings"
	"testing"
	"unicode/utf8"
)

// want is what the document says of one code.
type want struct {
	code, constant, class int
	sign, word            string
}

// wanted is the document's list, with the signs by their numbers.
func wanted() []want {
	return []want{
		{1, Plus, Scalar, "+", ""}, {2, Minus, Scalar, "-", ""}, {3, Times, Scalar, "\u00d7", "mul"},
		{4, Over, Scalar, "\u00f7", "div"}, {5, Power, Scalar, "\u22c6", "pow"}, {6, Rest, Scalar, "|", ""},
		{7, Max, Scalar, "\u2308", "max"}, {8, Min, Scalar, "\u230a", "min"}, {9, Equal, Scalar, "=", ""},
		{10, Unlike, Scalar, "\u2260", "ne"}, {11, Less, Scalar, "<", ""}, {12, AtMost, Scalar, "\u2264", "le"},
		{13, More, Scalar, ">", ""}, {14, AtLeast, Scalar, "\u2265", "ge"}, {15, And, Scalar, "\u2227", "and"},
		{16, Or, Scalar, "\u2228", "or"}, {17, Left, Scalar, "\u22a3", "left"}, {18, Right, Scalar, "\u22a2", "right"},
		{19, Not, Scalar, "~", ""},
		{20, Shape, Mixed, "\u2374", "rho"}, {21, Join, Mixed, ",", ""}, {22, Flip, Mixed, "\u233d", "rev"},
		{23, Roll, Mixed, "\u2296", "flip"}, {24, Turn, Mixed, "\u2349", "turn"}, {25, Take, Mixed, "\u2191", "take"},
		{26, Drop, Mixed, "\u2193", "drop"}, {27, Count, Mixed, "\u2373", "iota"}, {28, Tally, Mixed, "\u2262", "tally"},
		{29, Prev, Mixed, "\u2347", "prev"}, {30, Next, Mixed, "\u2348", "next"},
		{31, Slash, Operator, "/", ""}, {32, Bar, Operator, "\u233f", "down"}, {33, Back, Operator, "\\", ""},
		{34, BackBar, Operator, "\u2340", "run"}, {35, Near, Operator, "\u233a", "near"}, {36, Dot, Operator, ".", ""},
		{37, Jot, Operator, "\u2218", "jot"}, {38, Swap, Operator, "\u2368", "swap"},
		{39, Open, Mark, "(", ""}, {40, Close, Mark, ")", ""}, {41, Is, Mark, "\u2190", "is"}, {42, Colon, Mark, ":", ""},
		{43, Then, Mark, "\u22c4", "then"},
	}
}

func TestClassesHaveTheirNumbers(t *testing.T) {
	if Scalar != 1 || Mixed != 2 || Operator != 3 || Mark != 4 {
		t.Error("the classes' constants")
	}
}

func TestSignsByCode(t *testing.T) {
	for i, w := range wanted() {
		if w.code != i+1 || w.constant != w.code {
			t.Errorf("the constant of %d is %d", w.code, w.constant)
		}
		if s := Sign(w.code); s != w.sign {
			t.Errorf("Sign(%d): got %q, want %q", w.code, s, w.sign)
		}
		if s := Word(w.code); s != w.word {
			t.Errorf("Word(%d): got %q, want %q", w.code, s, w.word)
		}
		if c := Class(w.code); c != w.class {
			t.Errorf("Class(%d): got %d, want %d", w.code, c, w.class)
		}
	}
}

func TestCodesThatThereAreNot(t *testing.T) {
	for _, code := range []int{0, -1, -43, 44, 45, 100, 1 << 32, 1<<32 + 1, math.MaxInt, math.MinInt} {
		if Sign(code) != "" || Word(code) != "" || Class(code) != 0 {
			t.Errorf("%d: got %q, %q, %d", code, Sign(code), Word(code), Class(code))
		}
	}
}

func TestOf(t *testing.T) {
	for _, w := range wanted() {
		if c, ok := Of(w.sign); c != w.code || !ok {
			t.Errorf("Of(%q): got %d, %v", w.sign, c, ok)
		}
	}
	for _, s := range []string{
		"", "x", "Z", "7", "++", "+ ", " +", "\u2308/", "\u2308\u2308", "mul", "max", "`", "`max", "_", "\u00af", "#", "\u235d",
		"*", "^", "!", "\x00", "\x00\x00", "\n", "\t", "\ufffd", "\xff", "\xc3", "\xe2\x8c", "\xe2", "\x97", "\xc0\xab", "+\x00", "\x00+",
		"\u22c7", "\u2206", "\u2212", "\u2223", "\u02dc", "\U0001f600",
	} {
		if c, ok := Of(s); c != 0 || ok {
			t.Errorf("Of(%q): got %d, %v, want 0, false", s, c, ok)
		}
	}
}

func TestNamed(t *testing.T) {
	for _, w := range wanted() {
		if c, ok := Named(w.word); w.word != "" && (c != w.code || !ok) {
			t.Errorf("Named(%q): got %d, %v", w.word, c, ok)
		}
		if c, ok := Named(w.sign); c != 0 || ok {
			t.Errorf("Named(%q): got %d, %v, want 0, false", w.sign, c, ok)
		}
	}
	for _, s := range []string{
		"", " ", "`", "`max", "MAX", "Max", "ma", "maxx", "max ", " max", "plus", "slash", "bar", "shape", "near\x00", "\x00", "x", "f",
		"ta", "tak", "nex", "nextt", "i",
	} {
		if c, ok := Named(s); c != 0 || ok {
			t.Errorf("Named(%q): got %d, %v, want 0, false", s, c, ok)
		}
	}
}

func checkFirst(t *testing.T, text string, code, bytes int) {
	t.Helper()
	if c, n := First(text); c != code || n != bytes {
		t.Errorf("First(%q): got %d, %d, want %d, %d", text, c, n, code, bytes)
	}
}

func TestFirst(t *testing.T) {
	for _, x := range []struct {
		text        string
		code, bytes int
	}{
		{"\u2308/x", 7, 3}, {"`max x", 7, 4}, {"x", 0, 0}, {"+", 1, 1}, {"\\+", 33, 1}, {"\u00d7\u00d7", 3, 2},
		{"`max", 7, 4}, {"`max`min", 7, 4}, {"`iota3", 27, 5}, {"`neX", 10, 3}, {"`left_", 17, 5}, {"`or\u2228", 16, 3}, {"`is\xff", 41, 3},
		{"`ge\x00", 14, 3}, {"`rho{", 20, 4}, {"`then@", 43, 5},
	} {
		checkFirst(t, x.text, x.code, x.bytes)
	}
}

func TestFirstOfWhatBeginsWithNoSign(t *testing.T) {
	for _, text := range []string{
		"", "x", "x+", "7", " +", "\n+", "\x00", "\x00+", "_", "\u00af1", "#", "\u235d", "max", "max x", "\ufffd", "\xff+", "\xe2\x8c", "\xc3",
		"\x97", "\xc0\xab", "*", "^", "'", "\"", "\U0001f600",
		"`", "``", "``max", "` max", "`+", "`\u2308", "`7", "`Max", "`MAX", "`x", "`ma", "`m", "`maxx", "`maxmin", "`nearr", "`nea", "`plus",
		"`\x00", "`\xff", "`\u00d7", "\u00b4max", "'max",
	} {
		checkFirst(t, text, 0, 0)
	}
	checkFirst(t, "`"+strings.Repeat("max", 100000), 0, 0)
}

// TestFirstReadsAllLettersOfAWord: a letter more makes another word, and any
// other byte none.
func TestFirstReadsAllLettersOfAWord(t *testing.T) {
	for _, w := range wanted() {
		if w.word == "" {
			continue
		}
		for b := range 256 {
			text := "`" + w.word + string([]byte{byte(b)}) + "x"
			if b >= 'a' && b <= 'z' {
				checkFirst(t, text, 0, 0)
			} else {
				checkFirst(t, text, w.code, 1+len(w.word))
			}
		}
	}
}

func TestEachSignAndWordIsOneCodes(t *testing.T) {
	signs, words := map[string]int{}, map[string]int{}
	for code := -5; code < 100; code++ {
		sign, word := Sign(code), Word(code)
		if sign != "" {
			signs[sign]++
			if c, ok := Of(sign); c != code || !ok || utf8.RuneCountInString(sign) != 1 {
				t.Errorf("the sign %q of %d", sign, code)
			}
		}
		if word != "" {
			words[word]++
			if c, ok := Named(word); c != code || !ok {
				t.Errorf("the word %q of %d", word, code)
			}
		}
		if (len(sign) > 1) != (word != "") {
			t.Errorf("%d: a sign beyond ASCII has a word, and no other: %q, %q", code, sign, word)
		}
	}
	if len(signs) != 43 || len(words) != 29 {
		t.Errorf("got %d signs, %d words", len(signs), len(words))
	}
	for s, n := range signs {
		if n != 1 {
			t.Errorf("the sign %q is %d codes'", s, n)
		}
	}
	for s, n := range words {
		if n != 1 {
			t.Errorf("the word %q is %d codes'", s, n)
		}
	}
}

// TestWhateverStandsBehindASign: the sign is the one with which the text
// begins.
func TestWhateverStandsBehindASign(t *testing.T) {
	tails := []string{"", " ", "x", "max", "`max", "`", "1", "\n", "\x00", "\xff", "\x80\x80", "\xe2\x8c", "\ufffd", strings.Repeat("z", 3000)}
	for _, w := range wanted() {
		for _, tail := range tails {
			checkFirst(t, w.sign+tail, w.code, len(w.sign))
		}
		for _, v := range wanted() {
			checkFirst(t, w.sign+v.sign, w.code, len(w.sign))
			checkFirst(t, w.sign+v.word, w.code, len(w.sign))
		}
	}
}

// TestEveryRune: there are no other signs than the document's.
func TestEveryRune(t *testing.T) {
	codes := map[rune]int{}
	for _, w := range wanted() {
		r, _ := utf8.DecodeRuneInString(w.sign)
		codes[r] = w.code
	}
	for r := rune(0); r < 0x30000; r++ {
		text := string(r)
		code, ok := Of(text)
		if code != codes[r] || ok != (code != 0) {
			t.Fatalf("Of(%q): got %d, %v", text, code, ok)
		}
		if c, n := First(text); c != code || (n != 0) != ok {
			t.Fatalf("First(%q): got %d, %d", text, c, n)
		}
	}
}
