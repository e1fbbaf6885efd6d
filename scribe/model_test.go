package scribe

import (
	"slices"
	"strconv"
	"strings"
	"testing"
	"unicode"

	"riffle/api"
	"riffle/glyph"
	"riffle/parse"
	"riffle/token"
	"riffle/tree"
)

// A modelled text is a list of pieces, by the chapter's words.

func braced(pieces []string) []string {
	return slices.Concat([]string{"("}, pieces, []string{")"})
}

func valued(v part) []string {
	switch v.node.Kind {
	case tree.Num:
		return []string{numbered(v.node.Nums)}
	case tree.Var:
		return []string{v.node.Name}
	case tree.One:
		return slices.Concat(functioned(v.parts[0], false), valued(v.parts[1]))
	}
	first := valued(v.parts[0])
	if kind := v.parts[0].node.Kind; kind == tree.One || kind == tree.Two {
		first = braced(first)
	}
	return slices.Concat(first, functioned(v.parts[1], true), valued(v.parts[2]))
}

func numbered(nums []int64) string {
	s := ""
	for i, n := range nums {
		s += strings.Repeat(" ", min(i, 1)) + strings.Replace(strconv.FormatInt(n, 10), "-", "¯", 1)
	}
	return s
}

func functioned(f part, ofTwo bool) []string {
	sign := glyph.Sign(f.node.Code)
	switch f.node.Kind {
	case tree.Prim:
		if !ofTwo && (sign == "/" || sign == "⌿") {
			return []string{"(", sign, ")"}
		}
		return []string{sign}
	case tree.Known:
		return []string{f.node.Name}
	case tree.Op:
		return append(functioned(f.parts[0], false), sign)
	case tree.Near:
		return braced(append(functioned(f.parts[0], false), "⌺", numbered(f.node.Nums)))
	case tree.Dot:
		return slices.Concat(primaried(f.parts[0]), []string{"."}, primaried(f.parts[1]))
	case tree.Outer:
		return slices.Concat([]string{"∘", "."}, primaried(f.parts[0]))
	}
	return braced(trained(f))
}

func primaried(f part) []string {
	pieces := functioned(f, false)
	if kind := f.node.Kind; kind == tree.Op || kind == tree.Dot || kind == tree.Outer {
		return braced(pieces)
	}
	return pieces
}

func trained(f part) []string {
	if f.node.Kind != tree.Fork && f.node.Kind != tree.Atop {
		return functioned(f, false)
	}
	var pieces []string
	for i, p := range f.parts {
		switch {
		case p.node.Kind == tree.Num:
			pieces = append(pieces, numbered(p.node.Nums))
		case i == len(f.parts)-1 && p.node.Kind == tree.Fork:
			pieces = append(pieces, trained(p)...)
		default:
			pieces = append(pieces, functioned(p, false)...)
		}
	}
	return pieces
}

// joined is pieces with blanks where two of them would run together.
func joined(pieces []string) string {
	s := ""
	for _, piece := range pieces {
		if s != "" {
			last, first := rune(s[len(s)-1]), rune(piece[0])
			if last < 128 && first < 128 && (unicode.IsLetter(last) || unicode.IsDigit(last)) && (unicode.IsLetter(first) || unicode.IsDigit(first)) {
				s += " "
			}
		}
		s += piece
	}
	return s
}

// depth is how many parentheses stand within one another.
func depth(text string) int {
	now, most := 0, 0
	for _, sign := range text {
		switch sign {
		case '(':
			now++
		case ')':
			now--
		}
		most = max(most, now)
	}
	return most
}

// forest is all values, and all functions, with so many nodes, by how many.
type forest struct {
	values, functions [][]part
}

// grown tells all of up to most nodes.
func grown(most int) forest {
	leaves := []part{num(7), num(-1, 2), variable("x")}
	f := forest{[][]part{nil, leaves}, [][]part{nil, {plus(), slash(), known("F")}}}
	for size := 2; size <= most; size++ {
		var values, functions []part
		for _, g := range f.functions[size-1] {
			functions = append(functions, op(g, glyph.Slash), op(g, glyph.Swap), near(g, 1, -2), outer(g))
		}
		for a := 1; a < size-1; a++ {
			b := size - 1 - a
			for _, left := range f.functions[a] {
				for _, right := range f.functions[b] {
					functions = append(functions, dot(left, right), atop(left, right))
				}
				for _, right := range f.values[b] {
					values = append(values, one(left, right))
				}
			}
			for mid := 1; mid < b; mid++ {
				last := b - mid
				for _, g := range f.functions[mid] {
					for _, left := range f.values[a] {
						for _, right := range f.values[last] {
							values = append(values, two(left, g, right))
						}
					}
					for _, right := range f.functions[last] {
						for _, left := range f.functions[a] {
							functions = append(functions, fork(left, g, right))
						}
						if a == 1 {
							functions = append(functions, fork(num(1, 2), g, right), fork(num(-3), g, right))
						}
					}
				}
			}
		}
		f.values, f.functions = append(f.values, values), append(f.functions, functions)
	}
	return f
}

// check tests that a program is written as the model writes it, with so many
// tokens, and is read as the same.
func check(t *testing.T, p api.Prog, pieces []string) {
	t.Helper()
	want := joined(pieces)
	s, e := Text(p)
	if s != want || e != api.OK {
		t.Fatalf("got %q, %d, want %q", s, e, want)
	}
	if toks, fault := token.Lex(s); fault.E != api.OK || len(toks) != len(pieces) {
		t.Fatalf("%q: %d tokens, %v, of %d pieces", s, len(toks), fault, len(pieces))
	}
	back, fault := parse.Text(s)
	if fault.E != api.OK || !tree.Same(p, back) {
		t.Fatalf("%q is read as %v, %v", s, back, fault)
	}
}

// All small programs are written as the chapter says, and read as they were
// (P20.2 to P20.6).
func TestAllSmallPrograms(t *testing.T) {
	trees := grown(6)
	for size := range trees.values {
		for _, v := range trees.values[size] {
			check(t, rooted(v), append([]string{"x", ":", "\n"}, valued(v)...))
		}
		for _, f := range trees.functions[size] {
			p := program(x(), []int{2, 3}, def{"G", f})
			check(t, p, slices.Concat([]string{"x", ":", "2 3", "\n", "G", "←"}, trained(f), []string{"\n", "x"}))
		}
	}
}

// What is read is written so that it is read as the same (P20.6).
func TestWhatIsReadIsWritten(t *testing.T) {
	for text, want := range map[string]string{
		" x : 2 3 # head\n\n y ← 1  2 + x ⋄ F ← (+) # f\n\t(F) y ": "x:2 3\ny←1 2+x\nF←+\nF y",
		"x:\n`max`down x":            "x:\n⌈⌿x",
		"x:\n((x))+(_2)":             "x:\nx+¯2",
		"x:\n+⌺1 2⌺3 4 x":            "x:\n((+⌺1 2)⌺3 4)x",
		"x:\n//x":                    "x:\n(/)/x",
		"x:\n/x":                     "x:\n(/)x",
		"x:\nx(/)y":                  "x:\nx/y",
		"x:\n(+).(×)x":               "x:\n+.×x",
		"x:\n/./x":                   "x:\n(/).(/)x",
		"x:\nF←(-)((+-×))\nx":        "x:\nF←-+-×\nx",
		"x:\nF←/\nG←⌿F\nx":           "x:\nF←(/)\nG←(⌿)F\nx",
		"x:\n((((-((x))))))+((x))":   "x:\n(-x)+x",
		"x:\n(+(-×))x":               "x:\n(+(-×))x",
		"x:\nMean←2÷⍨2+⌿⊢\nMean x⊣1": "x:\nMean←2÷⍨2+⌿⊢\nMean x⊣1",
	} {
		p, fault := parse.Text(text)
		if fault.E != api.OK {
			t.Errorf("%q: %v", text, fault)
			continue
		}
		writes(t, p, want)
	}
}

// All short texts that are read are written, and read again, as the same; what
// was written is written so again (P20.6).
func TestAllShortTexts(t *testing.T) {
	pieces := []string{" x ", " F ", " 2 ", "+", "/", "⌺1 2", ".", "∘.", "(", ")"}
	var all func(text string, most int)
	all = func(text string, most int) {
		for _, text := range []string{"x:2\n" + text, "x:2\nG←" + text + "\nx"} {
			p, fault := parse.Text(text)
			if fault.E != api.OK {
				continue
			}
			s, e := Text(p)
			back, fault := parse.Text(s)
			again, _ := Text(back)
			if e != api.OK || fault.E != api.OK || !tree.Same(p, back) || again != s {
				t.Fatalf("%q is written as %q, %d, and read as %v, %v", text, s, e, back, fault)
			}
		}
		if most == 0 {
			return
		}
		for _, piece := range pieces {
			all(text+piece, most-1)
		}
	}
	all("", 5)
}

// Parentheses are counted, of whatever they are (P20.1).
func TestAllKindsOfParentheses(t *testing.T) {
	met := 0
	for _, functions := range grown(4).functions {
		for _, f := range functions {
			for around := 12; around <= 16; around++ {
				v := one(f, x())
				for range around {
					v = two(v, plus(), x())
				}
				p := rooted(v)
				want := api.OK
				if depth(joined(valued(v))) > api.MaxDepth {
					want = api.ErrDepth
					met++
				}
				if s, e := Text(p); e != want || (e != api.OK) != (s == "") {
					t.Fatalf("%q: got %q, %d, want %d", joined(valued(v)), s, e, want)
				}
			}
		}
	}
	if met == 0 {
		t.Error("none was too deep")
	}
}

// A program that is written isn't changed (rule 4).
func TestArgumentsAreNotChanged(t *testing.T) {
	made := func() api.Prog {
		return program(two(one(stacked(2), x()), plus(), num(1, -2)), []int{2, 2}, def{"F", fork(num(1), plus(), slash())})
	}
	p := made()
	if _, e := Text(p); e != api.OK || !tree.Same(p, made()) {
		t.Error("changed", p, e)
	}
}
