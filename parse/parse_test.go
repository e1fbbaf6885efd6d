package parse

import (
	"strconv"
	"strings"
	"testing"

	"riffle/api"
	"riffle/glyph"
	"riffle/tree"
)

// kinds are the names of nodes by their kinds.
func kinds() []string {
	return []string{"", "Num", "Var", "One", "Two", "Prim", "Known", "Op", "Near", "Dot", "Outer", "Fork", "Atop"}
}

// wrote is a node, written with where it stands, its fields and its parts.
func wrote(kind string, at int, field string, parts ...string) string {
	s := kind + "@" + strconv.Itoa(at)
	if field != "" {
		s += "=" + field
	}
	if len(parts) > 0 {
		s += "(" + strings.Join(parts, ", ") + ")"
	}
	return s
}

// row is numbers, written with commas between.
func row(nums []int64) string {
	var words []string
	for _, n := range nums {
		words = append(words, strconv.FormatInt(n, 10))
	}
	return strings.Join(words, ",")
}

// node is the node i of a program, written.
func node(p api.Prog, i int) string {
	n := p.Nodes[i]
	var parts []string
	for _, kid := range n.Kids {
		parts = append(parts, node(p, kid))
	}
	return wrote(kinds()[n.Kind], n.At, glyph.Sign(n.Code)+n.Name+row(n.Nums), parts...)
}

// shown is a program, written line by line.
func shown(p api.Prog) string {
	lines := []string{p.Name + ":"}
	for i, n := range p.Dims {
		lines[0] += strings.Repeat(" ", min(i, 1)) + strconv.Itoa(n)
	}
	for _, d := range p.Defs {
		lines = append(lines, d.Name+"@"+strconv.Itoa(d.At)+"="+node(p, d.Node))
	}
	return strings.Join(append(lines, node(p, p.Root)), "\n")
}

// zero tells whether a program is the zero one.
func zero(p api.Prog) bool {
	return p.Name == "" && p.Dims == nil && p.Nodes == nil && p.Defs == nil && p.Root == 0
}

// reads tests that a text is read as this program.
func reads(t *testing.T, text, want string) {
	t.Helper()
	p, fault := Text(text)
	if fault != (api.Fault{}) {
		t.Errorf("Text(%q): the fault %v", text, fault)
		return
	}
	if !tree.Right(p) {
		t.Errorf("Text(%q): no program that may be: %v", text, p)
		return
	}
	if got := shown(p); got != want {
		t.Errorf("Text(%q):\ngot  %s\nwant %s", text, got, want)
	}
}

// fails tests that a text has this fault.
func fails(t *testing.T, text string, e api.Errno, at int) {
	t.Helper()
	p, fault := Text(text)
	if fault != (api.Fault{E: e, At: at}) || !zero(p) {
		t.Errorf("Text(%q): got %v, %v, want %d at %d", text, p, fault, e, at)
	}
}

// Lex's fault is told ahead of all else, wherever it stands (P19.1).
func TestFaultsOfTokensComeFirst(t *testing.T) {
	fails(t, "x:\nx&", api.ErrSign, 4)
	fails(t, "((\n&", api.ErrSign, 3)
	fails(t, "x:65\n)(\n01", api.ErrNumber, 8)
	fails(t, "x:\nx+\n"+strings.Repeat("a", 21), api.ErrName, 6)
	fails(t, strings.Repeat("+", 2001), api.ErrMany, 2000)
	fails(t, strings.Repeat("+", 401), api.ErrMany, 400)
	fails(t, "x:\nx⊣"+strings.Repeat("1 ", 65), api.ErrMany, 135)
}

func TestStatements(t *testing.T) {
	reads(t, "x:\nx", "x:\nVar@3=x")
	reads(t, "x:⋄x", "x:\nVar@5=x")
	reads(t, "x:`then x", "x:\nVar@8=x")
	reads(t, "\n⋄ \n # none\n\tx : 2 3 # head\n⋄\n x # root\n ⋄\n", "x:2 3\nVar@35=x")
	reads(t, "price2:\nprice2", "price2:\nVar@8=price2")
	reads(t, "x:\ny", "x:\nVar@3=y")
	reads(t, "x:\ny←x⋄y", "x:\ny@3=Var@7=x\nVar@11=y")
	reads(t, "x:\ny`is x\nF←+\nx", "x:\ny@3=Var@8=x\nF@10=Prim@14=+\nVar@16=x")
	reads(t, "x:\nF←F\nF←F\nx←x\nx", "x:\nF@3=Known@7=F\nF@9=Known@13=F\nx@15=Var@19=x\nVar@21=x")
}

func TestHeads(t *testing.T) {
	for dims, want := range map[string]string{
		"": "", "0": "0", "64": "64", "1 1 1": "1 1 1", "8 8": "8 8", "4 4 4": "4 4 4", "0 64 64": "0 64 64", "64 64 0": "64 64 0",
	} {
		at := strconv.Itoa(len(dims) + 3)
		reads(t, "x:"+dims+"\nx", "x:"+want+"\nVar@"+at+"=x")
	}
	for _, dims := range []string{
		"65", "8 9", "¯1", "_1 0", "1 1 1 1", "0 0 0 0", "64 64", "4294967296", "9223372036854775807", "¯9223372036854775808", "0 65",
	} {
		fails(t, "x:"+dims+"\nx", api.ErrSize, 2)
		fails(t, " x : "+dims, api.ErrSize, 5)
	}
	for _, head := range []string{
		"x", ":", ": x", "X:", "2:", "(:", "x←", "x:x", "x:X", "x::", "x: 2:", "x: 2 x", "x 2", "x 2:", "x:+", "x:2+", "(x:)", "x:(2)", "x y:", ":2",
		"x←2", "F←+", "x+x", ")",
	} {
		fails(t, " "+head, api.ErrSyntax, 1)
		fails(t, " "+head+"\n(\n)", api.ErrSyntax, 1)
	}
	fails(t, "x:65 x\nx", api.ErrSyntax, 0)
	fails(t, "X:65\nx", api.ErrSyntax, 0)
}

func TestTooFewStatements(t *testing.T) {
	for _, text := range []string{"", "\n", " \t", "⋄⋄", "# x", "⍝ x:\n\n", "x:", "x:2", " x:2 2 # y←x", "\nx:\n \n⋄"} {
		fails(t, text, api.ErrSyntax, len(text))
	}
}

func TestDefinitions(t *testing.T) {
	reads(t, "x:\nv←2+x\nx", "x:\nv@3=Two@8(Num@7=2, Prim@8=+, Var@9=x)\nVar@11=x")
	reads(t, "x:\nT←2+F\nx", "x:\nT@3=Fork@8(Num@7=2, Prim@8=+, Known@9=F)\nVar@11=x")
	for _, def := range []string{"x", "F", "2", "+", "x←", "F←", "←x", "2←x", "+←x", "(x)←x", "x y←x", "x:2", "x+←x", "F F←+", "(", ")", "x=2"} {
		fails(t, "x:\n "+def+"\nx", api.ErrSyntax, 4)
		fails(t, "x:\n "+def+"\n(", api.ErrSyntax, 4)
	}
	fails(t, "x:\ny←x←x\nx", api.ErrSyntax, 8)
	fails(t, "x:\ny←F\nx", api.ErrSyntax, 7)
	fails(t, "x:\nF←x\nx", api.ErrSyntax, 7)
	fails(t, "x:\nF←2\nx", api.ErrSyntax, 7)
	fails(t, "x:\nF←2+\nx", api.ErrSyntax, 7)
	fails(t, "x:\nF←)\nx", api.ErrSyntax, 7)
	fails(t, "x:\ny←)\nx", api.ErrSyntax, 7)
}

func TestExpressions(t *testing.T) {
	for _, text := range []string{"y←x", "F←+", "2←x", "+←", "(←)", "y←(", "y←", "←←"} {
		fails(t, "x:\n "+text, api.ErrSyntax, 4)
	}
	fails(t, "x:\n←x", api.ErrSyntax, 3)
	fails(t, "x:\nx+y←x", api.ErrSyntax, 6)
	fails(t, "x:\n(y←x)", api.ErrSyntax, 5)
	fails(t, "x:\ny:2", api.ErrSyntax, 4)
}

// What stands ahead is told ahead (P19.1).
func TestStatementsAreReadInOrder(t *testing.T) {
	fails(t, "x:65\n)", api.ErrSize, 2)
	fails(t, "x:\n(x\n+", api.ErrSyntax, 3)
	fails(t, "x:\ny←x\nx←\ny←x", api.ErrSyntax, 9)
	fails(t, "x:\nF←+\nx+", api.ErrSyntax, 10)
}

func TestTooManyNodes(t *testing.T) {
	// A One and its Prim for each sign, and the Var.
	signs := strings.Repeat("-", 149)
	p, fault := Text("x:\n" + signs + "x")
	if fault.E != api.OK || len(p.Nodes) != 299 || p.Root != 298 || !tree.Right(p) {
		t.Errorf("of 299 nodes: %d, %v", len(p.Nodes), fault)
	}
	p, fault = Text("x:\ny←x\n" + signs + "x")
	if fault.E != api.OK || len(p.Nodes) != 300 || !tree.Right(p) {
		t.Errorf("of 300 nodes: %d, %v", len(p.Nodes), fault)
	}
	fails(t, "x:\n -"+signs+"x", api.ErrMany, 4)
	fails(t, "x:\n y←x\nz←x⋄ "+signs+"x", api.ErrMany, 19)
	fails(t, "x:\n y←-"+signs+"x\n)", api.ErrMany, 4)
	// A node for each tine, and one for two of them.
	p, fault = Text("x:\nF←" + strings.Repeat("-", 199) + "\nx")
	if fault.E != api.OK || len(p.Nodes) != 299 || !tree.Right(p) {
		t.Errorf("of 299 nodes: %d, %v", len(p.Nodes), fault)
	}
	fails(t, "x:\n F←"+strings.Repeat("-", 201)+"\nx", api.ErrMany, 4)
	// A statement that can't be read has no nodes.
	fails(t, "x:\n)"+signs+"--x", api.ErrSyntax, 3)
}

func TestValues(t *testing.T) {
	for text, want := range map[string]string{
		"2":           "Num@3=2",
		"1 ¯2 3":      "Num@3=1,-2,3",
		"(x)":         "Var@4=x",
		"((2))":       "Num@5=2",
		"+x":          "One@3(Prim@3=+, Var@4=x)",
		"2+x":         "Two@4(Num@3=2, Prim@4=+, Var@5=x)",
		"F x":         "One@3(Known@3=F, Var@5=x)",
		"x F 2":       "Two@5(Var@3=x, Known@5=F, Num@7=2)",
		"-F x":        "One@3(Prim@3=-, One@4(Known@4=F, Var@6=x))",
		"2-3-x":       "Two@4(Num@3=2, Prim@4=-, Two@6(Num@5=3, Prim@6=-, Var@7=x))",
		"(2-3)-x":     "Two@8(Two@5(Num@4=2, Prim@5=-, Num@6=3), Prim@8=-, Var@9=x)",
		"2-(3-x)":     "Two@4(Num@3=2, Prim@4=-, Two@7(Num@6=3, Prim@7=-, Var@8=x))",
		"-(-x)-y":     "One@3(Prim@3=-, Two@8(One@5(Prim@5=-, Var@6=x), Prim@8=-, Var@9=y))",
		"x/y":         "Two@4(Var@3=x, Prim@4=/, Var@5=y)",
		"1 0⌿x":       "Two@6(Num@3=1,0, Prim@6=⌿, Var@9=x)",
		"/x":          "One@3(Prim@3=/, Var@4=x)",
		"(x)/y":       "Two@6(Var@4=x, Prim@6=/, Var@7=y)",
		"(/)x":        "One@4(Prim@4=/, Var@6=x)",
		"x(/)y":       "Two@5(Var@3=x, Prim@5=/, Var@7=y)",
		"x(+)(y)":     "Two@5(Var@3=x, Prim@5=+, Var@8=y)",
		"(x)(+)y":     "Two@7(Var@4=x, Prim@7=+, Var@9=y)",
		"(+)x":        "One@4(Prim@4=+, Var@6=x)",
		"(x-1)∘.+2 3": "Two@11(Two@5(Var@4=x, Prim@5=-, Num@6=1), Outer@11(Prim@12=+), Num@13=2,3)",
	} {
		reads(t, "x:\n"+text, "x:\n"+want)
		reads(t, "x:\ny←"+text+"\n7", "x:\ny@3="+moved(want, 4)+"\nNum@"+strconv.Itoa(len(text)+8)+"=7")
	}
}

// moved is what a node's text is that stands so many bytes further on.
func moved(s string, by int) string {
	words := strings.Split(s, "@")
	for i, word := range words[1:] {
		n := 0
		for n < len(word) && word[n] >= '0' && word[n] <= '9' {
			n++
		}
		at, _ := strconv.Atoi(word[:n])
		words[i+1] = strconv.Itoa(at+by) + word[n:]
	}
	return strings.Join(words, "@")
}

func TestWrongValues(t *testing.T) {
	for text, at := range map[string]int{
		// What is no operand.
		"+": 3, "F": 3, "x+": 4, "x F": 5, "2.": 4, "x∘": 4, "x:": 4, "x⌺": 4, "⌺1": 6, "+⌺1 2": 7, "x+⌺1": 8, "(": 3, "()": 3, "x+()": 5, "(+)": 4, "x(+)": 5, "(x)+()": 7,
		// What is no function.
		"x x": 3, "x 2": 3, "2 x": 3, "x(x)": 3, "(x)x": 5, "(2)x": 5, ".x": 3, "∘x": 3, "⌺x": 3, ":x": 3, "(+x)x": 6, "()x": 4, ")x": 3, "(⌺1 2)x": 4, "x⌺x": 4,
		// What isn't closed, or opened.
		"(x": 3, "x+(x": 5, "((x)": 3, "x(x": 4, "(+x": 3, "+(x": 4, ")": 3, "x)": 4, "x+x)": 6, "(x))": 6, "x))": 4, "+)": 3, "(x)+)": 6, "x+)": 4, "))": 3,
	} {
		fails(t, "x:\n"+text, api.ErrSyntax, at)
		fails(t, "x:\ny←"+text+"\n)", api.ErrSyntax, at+4)
	}
	fails(t, "x:\n2⌺1 2 x", api.ErrSyntax, 4)
}

func TestFunctions(t *testing.T) {
	for text, want := range map[string]string{
		"+":           "Prim@3=+",
		"≢":           "Prim@3=≢",
		"⍈":           "Prim@3=⍈",
		"/":           "Prim@3=/",
		"⌿":           "Prim@3=⌿",
		"F":           "Known@3=F",
		"+/":          "Op@4=/(Prim@3=+)",
		"F⌿":          "Op@4=⌿(Known@3=F)",
		"F\\":         "Op@4=\\(Known@3=F)",
		"+⍀":          "Op@4=⍀(Prim@3=+)",
		"-⍨":          "Op@4=⍨(Prim@3=-)",
		"//":          "Op@4=/(Prim@3=/)",
		"/⌿":          "Op@4=⌿(Prim@3=/)",
		"///":         "Op@5=/(Op@4=/(Prim@3=/))",
		"+/⍨":         "Op@5=⍨(Op@4=/(Prim@3=+))",
		"+⌺1 2":       "Near@4=1,2(Prim@3=+)",
		"F⌺¯1 0":      "Near@4=-1,0(Known@3=F)",
		"+⌺1 2⌺3 4":   "Near@10=3,4(Near@4=1,2(Prim@3=+))",
		"+/⌺1 2⍨":     "Op@11=⍨(Near@5=1,2(Op@4=/(Prim@3=+)))",
		"+⌺1 2/":      "Op@10=/(Near@4=1,2(Prim@3=+))",
		"(+⌺1 2)/":    "Op@12=/(Near@5=1,2(Prim@4=+))",
		"(+⌺1 2)⌺3 4": "Near@12=3,4(Near@5=1,2(Prim@4=+))",
		"(+)/":        "Op@6=/(Prim@4=+)",
		"((+))/":      "Op@8=/(Prim@5=+)",
		"(/)/":        "Op@6=/(Prim@4=/)",
		"(+)⌺1 2":     "Near@6=1,2(Prim@4=+)",
		"+.×":         "Dot@4(Prim@3=+, Prim@5=×)",
		"F.G":         "Dot@4(Known@3=F, Known@5=G)",
		"/./":         "Dot@4(Prim@3=/, Prim@5=/)",
		"+.×/":        "Op@7=/(Dot@4(Prim@3=+, Prim@5=×))",
		"+.×⌺1 2":     "Near@7=1,2(Dot@4(Prim@3=+, Prim@5=×))",
		"(+/).(×/)":   "Dot@7(Op@5=/(Prim@4=+), Op@11=/(Prim@9=×))",
		"+.(×.-)":     "Dot@4(Prim@3=+, Dot@8(Prim@6=×, Prim@9=-))",
		"∘.+":         "Outer@6(Prim@7=+)",
		"∘.F/":        "Op@8=/(Outer@6(Known@7=F))",
		"∘.(+/)":      "Outer@6(Op@9=/(Prim@8=+))",
		"(∘.+).-":     "Dot@10(Outer@7(Prim@8=+), Prim@11=-)",
		"(-+)/":       "Op@7=/(Atop@4(Prim@4=-, Prim@5=+))",
		"-+/":         "Atop@3(Prim@3=-, Op@5=/(Prim@4=+))",
		"+/.×":        "Atop@3(Prim@3=+, Dot@5(Prim@4=/, Prim@6=×))",
		"-∘.+":        "Atop@3(Prim@3=-, Outer@7(Prim@8=+))",
		"-+.×":        "Atop@3(Prim@3=-, Dot@5(Prim@4=+, Prim@6=×))",
		"F +":         "Atop@3(Known@3=F, Prim@5=+)",
		"+F-":         "Fork@4(Prim@3=+, Known@4=F, Prim@5=-)",
		"2+F":         "Fork@4(Num@3=2, Prim@4=+, Known@5=F)",
		"1 2+F":       "Fork@6(Num@3=1,2, Prim@6=+, Known@7=F)",
		"-2+F":        "Atop@3(Prim@3=-, Fork@5(Num@4=2, Prim@5=+, Known@6=F))",
		"1-2+F":       "Fork@4(Num@3=1, Prim@4=-, Fork@6(Num@5=2, Prim@6=+, Known@7=F))",
		"+-×÷":        "Atop@3(Prim@3=+, Fork@5(Prim@4=-, Prim@5=×, Prim@7=÷))",
		"+-×÷⌈":       "Fork@4(Prim@3=+, Prim@4=-, Fork@7(Prim@5=×, Prim@7=÷, Prim@9=⌈))",
		"+(-×)÷":      "Fork@5(Prim@3=+, Atop@5(Prim@5=-, Prim@6=×), Prim@9=÷)",
		"+-(×÷)":      "Fork@4(Prim@3=+, Prim@4=-, Atop@6(Prim@6=×, Prim@8=÷))",
		"+⌺1 2-×":     "Fork@10(Near@4=1,2(Prim@3=+), Prim@10=-, Prim@11=×)",
		"-+⌺1 2-×":    "Atop@3(Prim@3=-, Fork@11(Near@5=1,2(Prim@4=+), Prim@11=-, Prim@12=×))",
		"(2+F)/":      "Op@8=/(Fork@5(Num@4=2, Prim@5=+, Known@6=F))",
		"+(2-F)/×":    "Fork@9(Prim@3=+, Op@9=/(Fork@6(Num@5=2, Prim@6=-, Known@7=F)), Prim@10=×)",
		"⊣/⊢":         "Atop@6(Op@6=/(Prim@3=⊣), Prim@7=⊢)",
		"2÷⍨2+⌿⊢":     "Fork@6(Num@3=2, Op@6=⍨(Prim@4=÷), Fork@11(Num@9=2, Op@11=⌿(Prim@10=+), Prim@14=⊢))",
	} {
		reads(t, "x:\nF←"+text+"\n7", "x:\nF@3="+moved(want, 4)+"\nNum@"+strconv.Itoa(len(text)+8)+"=7")
		// Within parentheses it is the function of a value.
		p, fault := Text("x:\n2(" + text + ")x")
		inner := moved(want, 2)
		at, _, _ := strings.Cut(strings.SplitN(inner, "@", 2)[1], "=")
		at, _, _ = strings.Cut(at, "(")
		if fault.E != api.OK || shown(p) != "x:\nTwo@"+at+"(Num@3=2, "+inner+", Var@"+strconv.Itoa(len(text)+6)+"=x)" {
			t.Errorf("2(%s)x: %v, %v", text, shown(p), fault)
		}
	}
}

func TestWrongFunctions(t *testing.T) {
	for text, at := range map[string]int{
		// What is no primary.
		"\\": 3, "⍀": 3, "⍨": 3, "⌺": 3, ".": 3, "∘": 3, ":": 3, "←": 3, "x": 3, "2": 3, "(": 3, "()": 4, "()+": 4, "+.": 4, "+∘": 4, "+:": 4, "+x": 4, "⍨+": 3, "x+": 3,
		// Near.
		"+⌺": 4, "+⌺1": 7, "+⌺1 2 3": 7, "⌺1 2": 3, "⌺1": 6, "x⌺1 2": 4, "2⌺1 2": 4, "(⌺1 2": 4, ".⌺1 2": 4, "⌺1 2/": 3, "(x)⌺1 2": 6, "⌺⌺1 2": 6, "()⌺1 2": 5,
		// Dot.
		".+": 3, "/.": 4, "..+": 3, "+..×": 4, "+.×.-": 4, "x.+": 3, "2.+": 3, "⍨.+": 3, "+⍨.×": 4, "+⌺1 2.×": 7, "(.+": 3, "(.+)": 3, "∘+": 3, "∘∘.+": 3, "+∘×": 4, "+∘.": 7, ".∘.+": 3, "+.∘.×": 4,
		// Trains.
		"+2": 4, "2+": 3, "+2-": 4, "2+2×": 5, "2 F": 3, "(+": 3, "+(-": 4, "+(": 4, "(+)(": 6, ")": 3, "+)": 4, ")+": 3, "+-)": 5, "(2)+": 5, "(2)+F": 5, "(2+)F": 4, "+(x)F": 6,
	} {
		fails(t, "x:\nF←"+text+"\n)", api.ErrSyntax, at+4)
	}
	// A tine that is no function is told at its own token, the last one; what
	// stands within its Close isn't read (P19.2, P19.5).
	for text, at := range map[string]int{
		"x)": 4, "(x)": 5, "((x))": 7, "x)+": 4, "(x)+-": 5, "(2)+-": 5, "+(x)-": 6, "+-(2)": 7, "-(x)+-": 6, "2(x)-": 6, ".)": 4, ")))": 5, "(()+)": 5,
		"(x)/": 5, "(x)+/": 5, "()⌿⍨": 4, "+(x)/": 6, "(x)∘.+": 5, "(x)+.×": 5, "(x)+⌺1 2": 5, "+(((x))-)": 9,
		// Behind a Dot a primary is read nevertheless (P19.4).
		"x).+": 3, "(x).+": 4, "().+": 3, "((x)).+": 6, "(2-).+": 4, "+.(x)": 7, "+.()": 6,
	} {
		fails(t, "x:\nF←"+text+"\n)", api.ErrSyntax, at+4)
	}
	for text, at := range map[string]int{
		"x)+)x": 4, "()/)y": 4, "(x)+-)x": 5, "⌿x)F⌺5 1)⌿⍨y": 7, "))F)1": 4, "2((x)+)x": 7, "2(+(x)-)x": 8, "x(+)-(2)x": 10, "(x).+)x": 4,
	} {
		fails(t, "x:\n"+text, api.ErrSyntax, at)
	}
	reads(t, "x:\nF←2 2+F\n2", "x:\nF@3=Fork@10(Num@7=2,2, Prim@10=+, Known@11=F)\nNum@13=2")
}

func TestLevels(t *testing.T) {
	open := func(n int) string { return strings.Repeat("(", n) }
	closed := func(n int) string { return strings.Repeat(")", n) }
	reads(t, "x:\n"+open(16)+"x"+closed(16), "x:\nVar@19=x")
	fails(t, "x:\n"+open(17)+"x"+closed(17), api.ErrDepth, 21)
	fails(t, "x:\n"+open(30)+"x"+closed(30), api.ErrDepth, 47)
	reads(t, "x:\nF←"+open(16)+"+"+closed(16)+"\nx", "x:\nF@3=Prim@23=+\nVar@41=x")
	fails(t, "x:\nF←"+open(17)+"+"+closed(17)+"\nx", api.ErrDepth, 25)
	// Of functions within values, and values beside them.
	reads(t, "x:\n"+open(15)+"(+)x"+closed(15), "x:\nOne@19(Prim@19=+, Var@21=x)")
	fails(t, "x:\n"+open(16)+"(+)x"+closed(16), api.ErrDepth, 21)
	fails(t, "x:\n"+open(16)+"(x)+x"+closed(16), api.ErrDepth, 21)
	// One that is behind another one isn't within it, and each statement begins anew.
	p, fault := Text("x:\ny←" + open(16) + "x" + closed(16) + "\n" + open(16) + "x" + closed(16) + "+" + open(16) + "x" + closed(16))
	if fault.E != api.OK || !tree.Right(p) {
		t.Error("levels behind one another", fault)
	}
	for _, text := range []string{"x:\n" + strings.Repeat("(x)+", 40) + "x", "x:\n" + strings.Repeat("(+)", 40) + "x"} {
		if p, fault := Text(text); fault.E != api.OK || !tree.Right(p) {
			t.Error("levels behind one another", fault)
		}
	}
	fails(t, "x:\n"+open(17)+"x"+closed(17)+"+(x)", api.ErrDepth, 21)
	// What else is wrong with the Close is told behind that.
	fails(t, "x:\n"+closed(16), api.ErrSyntax, 3)
	fails(t, "x:\n"+closed(17), api.ErrDepth, 3)
	fails(t, "x:\nx"+closed(17), api.ErrDepth, 4)
	fails(t, "x:\nF←+"+closed(16)+"\nx", api.ErrSyntax, 8)
	fails(t, "x:\nF←+"+closed(17)+"\nx", api.ErrDepth, 8)
	fails(t, "x:\nF←+"+closed(17)+".-\nx", api.ErrDepth, 8)
	// Nothing is read from a Close that must not stand there, so it is no level.
	fails(t, "x:\n"+open(16)+"(x)x"+closed(16), api.ErrSyntax, 21)
	fails(t, "x:\n"+open(15)+"((x)+)x"+closed(15), api.ErrSyntax, 21)
	fails(t, "x:\nF←"+closed(17)+"\nx", api.ErrSyntax, 23)
	fails(t, "x:\nF←+."+closed(17)+"\nx", api.ErrSyntax, 25)
}

// One and Two stand where their function does, Fork and Atop where their second
// and first part do (P19.6).
func TestWhereNodesStand(t *testing.T) {
	reads(t, "x:\n2(+-×)/x", "x:\nTwo@10(Num@3=2, Op@10=/(Fork@6(Prim@5=+, Prim@6=-, Prim@7=×)), Var@11=x)")
	reads(t, "x:\n(+(-×)F)x", "x:\nOne@6(Fork@6(Prim@4=+, Atop@6(Prim@6=-, Prim@7=×), Known@10=F), Var@12=x)")
	reads(t, "x:\n((+.×)F)x", "x:\nOne@6(Atop@6(Dot@6(Prim@5=+, Prim@7=×), Known@10=F), Var@12=x)")
	reads(t, "x:\n(∘.+⌺1 2)x", "x:\nOne@9(Near@9=1,2(Outer@7(Prim@8=+)), Var@16=x)")
	reads(t, "x:\n+ ⌺ 1 2 x", "x:\nOne@5(Near@5=1,2(Prim@3=+), Var@13=x)")
	reads(t, "x:\n ∘ . + x", "x:\nOne@8(Outer@8(Prim@10=+), Var@12=x)")
	reads(t, "x:\n Y2 ← + \n x", "x:\nY2@4=Prim@11=+\nVar@15=x")
}

// A word is the sign (layer 2).
func TestWords(t *testing.T) {
	reads(t, "x:\n`max`down x", "x:\nOne@7(Op@7=⌿(Prim@3=⌈), Var@13=x)")
	reads(t, "x:\n(+`near 1 2)x", "x:\nOne@5(Near@5=1,2(Prim@4=+), Var@15=x)")
}

// What is handed out is the caller's own.
func TestAnswersAreNewMemory(t *testing.T) {
	const text = "x:2 2\ny←1 2+x\n3 4(+⌺5 6)y"
	a, _ := Text(text)
	want := shown(a)
	b, _ := Text(text)
	for i := range b.Nodes {
		for k := range b.Nodes[i].Nums {
			b.Nodes[i].Nums[k] = 99
		}
		for k := range b.Nodes[i].Kids {
			b.Nodes[i].Kids[k] = 99
		}
		b.Nodes[i].Kids = append(b.Nodes[i].Kids, 1)
		b.Nodes[i].Nums = append(b.Nodes[i].Nums, 1)
	}
	b.Dims[0] = 99
	b.Defs[0].Node = 99
	c, _ := Text(text)
	if shown(a) != want || shown(c) != want {
		t.Error("an answer shares what it is with another one")
	}
}
