package token

import (
	"math"
	"regexp"
	"slices"
	"strconv"
	"strings"
	"testing"

	"riffle/api"
	"riffle/glyph"
)

// The tokens of a list that is written by hand.

func num(at int, nums ...int64) api.Tok {
	return api.Tok{Kind: 1, At: at, Nums: nums}
}

func name(at int, s string) api.Tok {
	return api.Tok{Kind: 2, At: at, Name: s}
}

func fun(at int, s string) api.Tok {
	return api.Tok{Kind: 3, At: at, Name: s}
}

func sign(at, code int) api.Tok {
	return api.Tok{Kind: 4, At: at, Code: code}
}

func end(at int) api.Tok {
	return api.Tok{Kind: 5, At: at}
}

func sameTok(a, b api.Tok) bool {
	return a.Kind == b.Kind && a.At == b.At && a.Code == b.Code && a.Name == b.Name && slices.Equal(a.Nums, b.Nums)
}

// checkToks looks whether a text has these tokens.
func checkToks(t *testing.T, text string, want ...api.Tok) {
	t.Helper()
	got, fault := Lex(text)
	if fault != (api.Fault{}) || !slices.EqualFunc(got, want, sameTok) {
		t.Errorf("Lex(%q): got %v, %v, want %v", text, got, fault, want)
	}
}

// checkFault looks whether this is wrong with a text.
func checkFault(t *testing.T, text string, e api.Errno, at int) {
	t.Helper()
	got, fault := Lex(text)
	if fault != (api.Fault{E: e, At: at}) || len(got) != 0 {
		t.Errorf("Lex(%q): got %v, %v, want %v", text, got, fault, api.Fault{E: e, At: at})
	}
}

func TestKindsHaveTheirNumbers(t *testing.T) {
	if Num != 1 || Name != 2 || Func != 3 || Sign != 4 || End != 5 {
		t.Error("the kinds' constants")
	}
}

func TestNamedByHand(t *testing.T) {
	for s, want := range map[string]int{
		"x": Name, "z": Name, "a": Name, "A": Func, "Z": Func, "F2": Func, "x0": Name, "xY": Name, "Xy": Func, "a9Z": Name, "x123456789": Name, "max": Name, "Mean": Func,
		"": 0, "0": 0, "9x": 0, "2F": 0, "_": 0, "x_": 0, "_x": 0, "x y": 0, " x": 0, "x ": 0, "x\n": 0, "x\x00": 0, "\x00": 0, "x-1": 0, "x.y": 0, "`max": 0,
		"×": 0, "é": 0, "xé": 0, "É": 0, "x×": 0, "α": 0, "ｘ": 0, "x٣": 0, "x１": 0, "\xff": 0, "x\xff": 0, "\xc3": 0, "\u017f": 0, "\u212a": 0,
	} {
		if got := Named(s); got != want {
			t.Errorf("Named(%q): got %d, want %d", s, got, want)
		}
	}
}

// kindOf tells which kind of name a byte alone is.
func kindOf(b byte) int {
	switch {
	case strings.IndexByte("abcdefghijklmnopqrstuvwxyz", b) >= 0:
		return Name
	case strings.IndexByte("ABCDEFGHIJKLMNOPQRSTUVWXYZ", b) >= 0:
		return Func
	}
	return 0
}

func TestNamedOfEachByte(t *testing.T) {
	for i := range 256 {
		b := byte(i)
		alone := string([]byte{b})
		kind := kindOf(b)
		if got := Named(alone); got != kind {
			t.Errorf("Named(%q): got %d, want %d", alone, got, kind)
		}
		goesOn := kind != 0 || b >= '0' && b <= '9'
		for first, want := range map[string]int{"q": Name, "Q": Func} {
			if !goesOn {
				want = 0
			}
			for _, s := range []string{first + alone, first + alone + "x", first + "x7" + alone} {
				if got := Named(s); got != want {
					t.Errorf("Named(%q): got %d, want %d", s, got, want)
				}
			}
		}
	}
}

func TestNamedByLength(t *testing.T) {
	for n := 1; n <= 60; n++ {
		for first, want := range map[string]int{"a": Name, "A": Func} {
			if n > 20 {
				want = 0
			}
			for _, more := range []string{"b", "B", "5"} {
				s := first + strings.Repeat(more, n-1)
				if got := Named(s); got != want {
					t.Errorf("Named(%q), %d bytes: got %d, want %d", s, n, got, want)
				}
			}
		}
	}
	if Named(strings.Repeat("x", 1<<20)) != 0 || Named(strings.Repeat("é", 10)) != 0 {
		t.Error("Named of long texts")
	}
}

func TestLexByHand(t *testing.T) {
	checkToks(t, "")
	checkToks(t, "x×1 ¯2", name(0, "x"), sign(1, 3), num(3, 1, -2))
	checkToks(t, "x:2\n2+x", name(0, "x"), sign(1, 42), num(2, 2), end(3), num(4, 2), sign(5, 1), name(6, "x"))
	checkToks(t, "Mean←+/ 1 _2\n# x\n`then y1",
		fun(0, "Mean"), sign(4, 41), sign(7, 1), sign(8, 31), num(10, 1, -2), end(14), end(18), end(19), name(25, "y1"))
	checkToks(t, "`max/x", sign(0, 7), sign(4, 31), name(5, "x"))
	checkToks(t, "3+⌿x⋄⍀", num(0, 3), sign(1, 1), sign(2, 32), name(5, "x"), end(6), sign(9, 34))
	checkToks(t, "(x)", sign(0, 39), name(1, "x"), sign(2, 40))
	checkToks(t, "x.∘⍨⌺", name(0, "x"), sign(1, 36), sign(2, 37), sign(5, 38), sign(8, 35))
}

func TestBlanksAreNoToken(t *testing.T) {
	for _, s := range []string{" ", "\t", "  ", "\t\t \t", strings.Repeat(" ", 2000)} {
		checkToks(t, s)
	}
	checkToks(t, "\t x \t y\t", name(2, "x"), name(6, "y"))
	for i := range 256 {
		b := string([]byte{byte(i)})
		toks, fault := Lex(b)
		if nothing := len(toks) == 0 && fault.E == api.OK; nothing != strings.Contains(" \t#", b) {
			t.Errorf("Lex(%q): got %v, %v", b, toks, fault)
		}
	}
}

func TestRemarks(t *testing.T) {
	for _, begin := range []string{"#", "⍝"} {
		n := len(begin)
		checkToks(t, begin)
		checkToks(t, begin+"x")
		checkToks(t, begin+begin+" & 07 ` \xff ⋄ `then ⍝ # "+strings.Repeat("x", 30))
		checkToks(t, "x"+begin+"y\r\x00\x0b\u2028\u0085z\n", name(0, "x"), end(11+n))
		checkToks(t, begin+"\nx", end(n), name(n+1, "x"))
		checkToks(t, "1 "+begin+" 2\n3", num(0, 1), end(4+n), num(5+n, 3))
		checkToks(t, "1"+begin+"2", num(0, 1))
		checkToks(t, "\n"+begin+"\n"+begin, end(0), end(1+n))
		checkFault(t, "x"+begin+"&\n&", api.ErrSign, 3+n)
	}
	checkFault(t, "\xe2\x8d", api.ErrSign, 0)
	checkFault(t, "x\xe2\x8d\x9c", api.ErrSign, 1)
}

func TestEnds(t *testing.T) {
	checkToks(t, "\n", end(0))
	checkToks(t, "\n\n⋄\n`then⋄", end(0), end(1), end(2), end(5), end(6), end(11))
	checkToks(t, "x\n", name(0, "x"), end(1))
	checkToks(t, "1\n2⋄3`then4", num(0, 1), end(1), num(2, 2), end(3), num(6, 3), end(7), num(12, 4))
	checkFault(t, "\r", api.ErrSign, 0)
	checkFault(t, "x\r\n", api.ErrSign, 1)
}

func TestNumbers(t *testing.T) {
	checkToks(t, "0", num(0, 0))
	checkToks(t, "1 2 3", num(0, 1, 2, 3))
	checkToks(t, "  1\t \t2  ", num(2, 1, 2))
	checkToks(t, "1_2", num(0, 1, -2))
	checkToks(t, "1¯2_3", num(0, 1, -2, -3))
	checkToks(t, "0¯1", num(0, 0, -1))
	checkToks(t, "0_1 0", num(0, 0, -1, 0))
	checkToks(t, "¯1", num(0, -1))
	checkToks(t, "1-2", num(0, 1), sign(1, 2), num(2, 2))
	checkToks(t, "1,2", num(0, 1), sign(1, 21), num(2, 2))
	checkToks(t, "1.5", num(0, 1), sign(1, 36), num(2, 5))
	checkToks(t, "1x2", num(0, 1), name(1, "x2"))
	checkToks(t, "x1", name(0, "x1"))
	checkToks(t, "x 1", name(0, "x"), num(2, 1))
	checkToks(t, "x_1", name(0, "x"), num(1, -1))
	checkToks(t, "x¯1 2", name(0, "x"), num(1, -1, 2))
	checkToks(t, "1 (2)3", num(0, 1), sign(2, 39), num(3, 2), sign(4, 40), num(5, 3))
	checkToks(t, "9223372036854775807 ¯9223372036854775808", num(0, math.MaxInt64, math.MinInt64))
	for _, s := range []string{
		"07", "00", "_0", "¯0", "_", "¯", "_x", "¯x", "__1", "¯¯1", "_ 1", "¯ 1", "¯\n", "_07", "9223372036854775808", "_9223372036854775809", strings.Repeat("9", 500),
	} {
		checkFault(t, s, api.ErrNumber, 0)
		checkFault(t, "x+"+s, api.ErrNumber, 2)
		checkFault(t, "1 2\t "+s+" & "+s, api.ErrNumber, 5)
		checkFault(t, "x⍝\n"+s, api.ErrNumber, 5)
	}
	checkFault(t, "1_07", api.ErrNumber, 1)
	checkFault(t, "1_", api.ErrNumber, 1)
	checkFault(t, "0_0", api.ErrNumber, 1)
	checkFault(t, "\xc2", api.ErrSign, 0)
	checkFault(t, "\xc21", api.ErrSign, 0)
	checkFault(t, "1\xaf", api.ErrSign, 1)
}

func TestNames(t *testing.T) {
	checkToks(t, "xY2z", name(0, "xY2z"))
	checkToks(t, "XY2z", fun(0, "XY2z"))
	checkToks(t, "a B\tc", name(0, "a"), fun(2, "B"), name(4, "c"))
	checkToks(t, "a+B", name(0, "a"), sign(1, 1), fun(2, "B"))
	checkToks(t, "max`max", name(0, "max"), sign(3, 7))
	checkToks(t, "`maxX", sign(0, 7), fun(4, "X"))
	checkToks(t, "`max1", sign(0, 7), num(4, 1))
	for _, first := range []string{"a", "Z"} {
		long := first + strings.Repeat("b", 19)
		kind := map[string]int{"a": Name, "Z": Func}[first]
		checkToks(t, " "+long+" x", api.Tok{Kind: kind, At: 1, Name: long}, name(22, "x"))
		checkToks(t, long+"\xc3\x97", api.Tok{Kind: kind, Name: long}, sign(20, 3))
		checkFault(t, " "+long+"c x", api.ErrName, 1)
		checkFault(t, "x "+long+"7", api.ErrName, 2)
		checkFault(t, "1"+strings.Repeat(long, 50), api.ErrName, 1)
		checkFault(t, "&"+long+"c", api.ErrSign, 0)
	}
	checkFault(t, "xé", api.ErrSign, 1)
	checkFault(t, "é", api.ErrSign, 0)
}

func TestEachSign(t *testing.T) {
	for code := glyph.Plus; code <= glyph.Then; code++ {
		want := sign(0, code)
		if code == glyph.Then {
			want = end(0)
		}
		for _, s := range []string{glyph.Sign(code), "`" + glyph.Word(code)} {
			if s == "`" {
				continue
			}
			checkToks(t, s, want)
			behind := want
			behind.At = 2
			checkToks(t, "x "+s+"Y", name(0, "x"), behind, fun(2+len(s), "Y"))
			checkToks(t, s+"0", want, num(len(s), 0))
			twice := want
			twice.At = len(s)
			checkToks(t, s+s, want, twice)
		}
	}
}

func TestWhatBeginsWithNothing(t *testing.T) {
	for _, s := range []string{
		"&", "*", "^", "!", "?", "$", "%", "@", "'", "\"", ";", "[", "]", "{", "}", "\x00", "\r", "\x0b", "\x7f", "\u00a0", "\u3000", "\ufeff",
		"`", "``max", "`x", "`maxx", "`Max", "`ma", "` max", "`thenx", "`then`", "\xff", "\xe2\x8c", "é", "ａ", "٣", "１", "−", "∆",
	} {
		at := 0
		if s == "`then`" {
			at = 5
		}
		checkFault(t, s, api.ErrSign, at)
		checkFault(t, "x 1 "+s+" 07", api.ErrSign, 4+at)
	}
}

func TestFirstFaultFromTheLeft(t *testing.T) {
	long := strings.Repeat("x", 21)
	checkFault(t, "07 & "+long, api.ErrNumber, 0)
	checkFault(t, "& 07 "+long, api.ErrSign, 0)
	checkFault(t, long+" 07 &", api.ErrName, 0)
	checkFault(t, "x+1 & 07", api.ErrSign, 4)
	checkFault(t, "x+07\n&", api.ErrNumber, 2)
}

func TestTextsOfManyBytes(t *testing.T) {
	checkToks(t, "x"+strings.Repeat(" ", 1999), name(0, "x"))
	checkToks(t, strings.Repeat(" ", 1999)+"x", name(1999, "x"))
	checkFault(t, strings.Repeat(" ", 2001), api.ErrMany, 2000)
	checkFault(t, strings.Repeat(" ", 1999)+"×", api.ErrMany, 2000)
	checkFault(t, "07 &"+strings.Repeat("x", 1997), api.ErrMany, 2000)
	checkFault(t, "#"+strings.Repeat("x", 2000), api.ErrMany, 2000)
	checkFault(t, strings.Repeat("\xff", 100000), api.ErrMany, 2000)
	checkFault(t, "07 &"+strings.Repeat("x", 1996), api.ErrNumber, 0)
	checkToks(t, "#"+strings.Repeat("x", 1999))
}

// many tells so many numbers, or other words, each with a blank behind.
func many(s string, n int) string {
	return strings.Repeat(s+" ", n)
}

func TestTokensOfManyNumbers(t *testing.T) {
	sevens := slices.Repeat([]int64{7}, 64)
	checkToks(t, many("7", 64), num(0, sevens...))
	checkToks(t, "7"+strings.Repeat("_7", 63), num(0, append([]int64{7}, slices.Repeat([]int64{-7}, 63)...)...))
	checkToks(t, many("7", 64)+"x 7", num(0, sevens...), name(128, "x"), num(130, 7))
	checkToks(t, many("7", 64)+"\n7", num(0, sevens...), end(128), num(129, 7))
	checkToks(t, "x "+many("7", 64)+"#7", name(0, "x"), num(2, sevens...))
	checkFault(t, many("7", 64)+"\t 8", api.ErrMany, 130)
	checkFault(t, many("7", 65)+"07 &", api.ErrMany, 128)
	checkFault(t, "x+"+many("7", 64)+"8 9", api.ErrMany, 130)
	checkFault(t, "x+"+strings.Repeat("_7", 65), api.ErrMany, 130)
	// What is named first is told of what is wrong at one byte.
	checkFault(t, many("7", 64)+"08 9", api.ErrNumber, 128)
	checkFault(t, many("7", 64)+"_", api.ErrNumber, 128)
	checkFault(t, many("7", 63)+"08 9", api.ErrNumber, 126)
}

func TestManyTokens(t *testing.T) {
	all := many("x", 400)
	if toks, fault := Lex(all + " \t# 1 & 07"); len(toks) != 400 || fault != (api.Fault{}) {
		t.Errorf("400 tokens: got %d, %v", len(toks), fault)
	}
	for _, more := range []string{"x", "X", "1", "_1 2", "\n", "⋄", "`then", "+", "×", "`max", "⍝\n", "x &", "1 07", "1 2 &"} {
		at := 800
		if more == "⍝\n" {
			at = 803
		}
		checkFault(t, all+more, api.ErrMany, at)
	}
	// What is named first is told of what is wrong at one byte.
	checkFault(t, all+"07", api.ErrNumber, 800)
	checkFault(t, all+"¯", api.ErrNumber, 800)
	checkFault(t, all+strings.Repeat("x", 21), api.ErrName, 800)
	checkFault(t, all+"&", api.ErrSign, 800)
	checkFault(t, all+"`m", api.ErrSign, 800)
	// A number that joins others is no token more.
	last := many("x", 399) + many("7", 64)
	if toks, fault := Lex(last); len(toks) != 400 || fault != (api.Fault{}) || len(toks[399].Nums) != 64 {
		t.Errorf("64 numbers as the last token: got %d, %v", len(toks), fault)
	}
	checkFault(t, last+"7", api.ErrMany, 798+128)
	checkFault(t, last+"x", api.ErrMany, 798+128)
	if toks, fault := Lex(strings.Repeat("\n", 400)); len(toks) != 400 || fault != (api.Fault{}) {
		t.Errorf("400 Ends: got %d, %v", len(toks), fault)
	}
	checkFault(t, strings.Repeat("\n", 401), api.ErrMany, 400)
	checkFault(t, strings.Repeat("+", 2000), api.ErrMany, 400)
}

// model is what Lex is to tell, by patterns of what the rest may begin with.
func model(text string) ([]api.Tok, api.Fault) {
	var toks []api.Tok
	at := 0
	for at < len(text) {
		tok, size, e := modelNext(text[at:])
		if e != api.OK {
			return nil, api.Fault{E: e, At: at}
		}
		tok.At = at
		at += size
		switch last := len(toks) - 1; {
		case tok.Kind == 0:
		case tok.Kind == Num && last >= 0 && toks[last].Kind == Num:
			toks[last].Nums = append(toks[last].Nums, tok.Nums...)
		default:
			toks = append(toks, tok)
		}
	}
	return toks, api.Fault{}
}

var (
	passed  = regexp.MustCompile(`^(?:[ \t]|(?:#|⍝)[^\n]*)`)
	ending  = regexp.MustCompile("^(?:\n|⋄|`then(?:[^a-z]|$))")
	number  = regexp.MustCompile(`^(?:[¯_][0-9]*|[0-9]+)`)
	plain   = regexp.MustCompile(`^(?:0|[¯_]?[1-9][0-9]*)$`)
	named   = regexp.MustCompile(`^[a-zA-Z][a-zA-Z0-9]*`)
	written = regexp.MustCompile("^(?s:`[a-z]*|.)")
)

// modelNext tells the first token of a text, or one of no kind, its bytes, and
// what is wrong with it.
func modelNext(s string) (api.Tok, int, api.Errno) {
	if m := passed.FindString(s); m != "" {
		return api.Tok{}, len(m), api.OK
	}
	if m := ending.FindString(s); m != "" {
		return api.Tok{Kind: End}, map[byte]int{'\n': 1, '`': 5, 0xe2: 3}[m[0]], api.OK
	}
	if m := number.FindString(s); m != "" {
		low := strings.Replace(strings.Replace(m, "¯", "-", 1), "_", "-", 1)
		n, err := strconv.ParseInt(low, 10, 64)
		if err != nil || !plain.MatchString(m) {
			return api.Tok{}, 0, api.ErrNumber
		}
		return api.Tok{Kind: Num, Nums: []int64{n}}, len(m), api.OK
	}
	if m := named.FindString(s); m != "" {
		if len(m) > 20 {
			return api.Tok{}, 0, api.ErrName
		}
		return api.Tok{Kind: kindOf(m[0]), Name: m}, len(m), api.OK
	}
	m := written.FindString(s)
	for code := glyph.Plus; code < glyph.Then; code++ {
		if word := glyph.Word(code); m == glyph.Sign(code) || word != "" && m == "`"+word {
			return api.Tok{Kind: Sign, Code: code}, len(m), api.OK
		}
	}
	return api.Tok{}, 0, api.ErrSign
}

// checkModel holds a text's tokens against what they are to be.
func checkModel(t *testing.T, text string) {
	t.Helper()
	want, wrong := model(text)
	got, fault := Lex(text)
	if fault != wrong || !slices.EqualFunc(got, want, sameTok) {
		t.Fatalf("Lex(%q): got %v, %v, want %v, %v", text, got, fault, want, wrong)
	}
	checkOrder(t, text, got)
}

// checkOrder looks whether each token stands behind the one ahead, within the
// text, and is not blank (P17.4).
func checkOrder(t *testing.T, text string, toks []api.Tok) {
	t.Helper()
	behind := 0
	for _, tok := range toks {
		if tok.At < behind || tok.At >= len(text) || strings.IndexByte(" \t#", text[tok.At]) >= 0 {
			t.Fatalf("Lex(%q): %v", text, toks)
		}
		behind = tok.At + 1
	}
}

// texts tells all texts of so many pieces at most.
func texts(pieces []string, most int) []string {
	l := []string{""}
	from := 0
	for range most {
		to := len(l)
		for _, s := range l[from:to] {
			for _, piece := range pieces {
				l = append(l, s+piece)
			}
		}
		from = to
	}
	return l
}

func TestAllShortTexts(t *testing.T) {
	pieces := []string{" ", "\t", "\n", "#", "⍝", "0", "7", "¯", "_", "x", "Y", "+", "×", "`", "max", "then", "⋄", "&", "\xe2", "\xc2"}
	for _, s := range texts(pieces, 4) {
		checkModel(t, s)
	}
	for _, s := range texts([]string{" ", "\n", "#", "0", "7", "_", "x", "+"}, 6) {
		checkModel(t, s)
	}
}

func TestAllTextsOfTwoBytes(t *testing.T) {
	for i := range 256 {
		checkModel(t, string([]byte{byte(i)}))
		for j := range 256 {
			checkModel(t, string([]byte{byte(i), byte(j)}))
			checkModel(t, string([]byte{0xe2, byte(i), byte(j)}))
		}
	}
}

// unplaced tells tokens as if all began at 0.
func unplaced(toks []api.Tok) []api.Tok {
	toks = slices.Clone(toks)
	for i := range toks {
		toks[i].At = 0
	}
	return toks
}

func TestBlanksAndRemarksChangeNothingElse(t *testing.T) {
	for _, s := range []string{
		"x×1 ¯2", "Mean←+/ 1 _2\n# x\n`then y1", "x:2 3\nF←+⌿\n(3 F x)÷3", "`max/x⋄y Z 1 2", "", "\n", "1 (2)3_4", "x`rho∘.y⍨",
	} {
		toks, fault := Lex(s)
		if fault.E != api.OK {
			t.Fatalf("Lex(%q): %v", s, fault)
		}
		wide := ""
		for i, tok := range toks {
			to := len(s)
			if i+1 < len(toks) {
				to = toks[i+1].At
			}
			wide += " \t  " + strings.ReplaceAll(s[tok.At:to], " ", " \t ") + " \t"
		}
		for _, other := range []string{wide, "  " + s, "\t" + s, s + "  ", s + "# & 07 `x \xff", wide + "⍝ x y 1 ⋄ `then"} {
			got, fault := Lex(other)
			if fault.E != api.OK || !slices.EqualFunc(unplaced(got), unplaced(toks), sameTok) {
				t.Errorf("Lex(%q): got %v, %v, want as of %q", other, got, fault, s)
			}
			checkOrder(t, other, got)
		}
		moved, _ := Lex("   " + s)
		for i := range moved {
			if moved[i].At != toks[i].At+3 {
				t.Errorf("Lex(%q): a token at %d, with blanks ahead at %d", s, toks[i].At, moved[i].At)
			}
		}
	}
}

func TestAnswersAreNewMemory(t *testing.T) {
	const text = "1 2 3+4 5 6 7 8\n9 10"
	toks, _ := Lex(text)
	for i := range toks {
		nums := toks[i].Nums
		for j := range nums {
			nums[j] = -1
		}
		toks[i].Nums = append(nums, -1, -1)
	}
	if toks[0].Nums[0] != -1 || toks[2].Nums[0] != -1 || len(toks[4].Nums) != 4 {
		t.Fatalf("changed tokens: %v", toks)
	}
	checkToks(t, text, num(0, 1, 2, 3), sign(5, 1), num(6, 4, 5, 6, 7, 8), end(15), num(16, 9, 10))
	toks, _ = Lex(text)
	toks[0].Nums = append(toks[0].Nums, 99)
	if !slices.Equal(toks[2].Nums, []int64{4, 5, 6, 7, 8}) || !slices.Equal(toks[4].Nums, []int64{9, 10}) {
		t.Errorf("tokens share their numbers: %v", toks)
	}
}
