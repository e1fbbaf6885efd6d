package steps

import (
	"fmt"
	"math"
	"slices"
	"strings"
	"testing"

	"riffle/api"
	"riffle/glyph"
	"riffle/parse"
	"riffle/scope"
	"riffle/tree"
)

// read tells the program that a text is.
func read(t *testing.T, text string) api.Prog {
	t.Helper()
	p, fault := parse.Text(text)
	if fault.E != api.OK {
		t.Fatalf("%q: %v", text, fault)
	}
	return p
}

// doing tells the program in which a function is done to x, and the function's
// place.
func doing(t *testing.T, function string) (api.Prog, int) {
	t.Helper()
	p := read(t, "x:\n("+function+")x")
	return p, p.Nodes[p.Root].Kids[0]
}

// kinds has the name of each kind of steps at its number.
var kinds = []string{"In", "Num", "One", "Two", "Alone", "Both", "Reduce", "Scan", "Down", "Run", "Wide", "Near", "Inner", "Outer"}

// shown is a step as text: its kind, where it stands, its functions and its
// sign, its places, its numbers.
func shown(s api.Step) string {
	text := fmt.Sprintf("%s@%d", kinds[s.Kind], s.At)
	text += functioned(" F", s.F) + functioned(" G", s.G)
	if s.Code != 0 {
		text += " C" + glyph.Sign(s.Code)
	}
	text += fmt.Sprintf(" %d %d", s.A, s.B)
	if len(s.Nums) > 0 {
		text += fmt.Sprint(" ", s.Nums)
	}
	return text
}

func functioned(name string, f api.Fn) string {
	if f == (api.Fn{}) {
		return ""
	}
	if f.Swap {
		return name + glyph.Sign(f.Code) + "⍨"
	}
	return name + glyph.Sign(f.Code)
}

func list(l []api.Step) string {
	var all []string
	for _, s := range l {
		all = append(all, shown(s))
	}
	return strings.Join(all, ", ")
}

// comes tests that a program comes to these steps behind the first one.
func comes(t *testing.T, p api.Prog, want ...string) {
	t.Helper()
	l, fault := Of(p)
	all := strings.Join(append([]string{"In@0 0 0"}, want...), ", ")
	if got := list(l); fault != (api.Fault{}) || got != all {
		t.Fatalf("%v:\ngot  %s, %v\nwant %s", p, got, fault, all)
	}
	follows(t, p, l)
}

// follows tests what follows of the steps of a program (P22.5).
func follows(t *testing.T, p api.Prog, l []api.Step) {
	t.Helper()
	if len(l) == 0 || l[0].Kind != In || len(l) > len(p.Nodes)+1 {
		t.Fatalf("%v: %d steps, %s", p, len(l), list(l))
	}
	for i, s := range l {
		if i > 0 && (s.Kind < Num || s.Kind > Outer || s.A < 0 || s.A >= i || s.B < 0 || s.B >= i) {
			t.Fatalf("%v: the step %d of %s", p, i, list(l))
		}
	}
}

// fails tests that a program has this fault, and no steps.
func fails(t *testing.T, p api.Prog, e api.Errno, at int) {
	t.Helper()
	if l, fault := Of(p); fault != (api.Fault{E: e, At: at}) || len(l) != 0 {
		t.Errorf("%v: got %s, %v, want %d at %d", p, list(l), fault, e, at)
	}
}

// failsAt tests that a text's program has ErrValence where the mark ^ stands in
// it.
func failsAt(t *testing.T, text string) {
	t.Helper()
	ahead, behind, _ := strings.Cut(text, "^")
	fails(t, read(t, ahead+behind), api.ErrValence, len(ahead))
}

func TestKindsHaveTheirNumbers(t *testing.T) {
	for i, kind := range []int{In, Num, One, Two, Alone, Both, Reduce, Scan, Down, Run, Wide, Near, Inner, Outer} {
		if kind != i {
			t.Errorf("the constant of %d is %d", i, kind)
		}
	}
}

// others are programs that are not flat, made of one that is.
func others(t *testing.T) []api.Prog {
	t.Helper()
	all := []api.Prog{{}, {Name: "x"}}
	for _, spoil := range []func(p *api.Prog){
		func(p *api.Prog) { p.Name = "X" },
		func(p *api.Prog) { p.Name = "y" },
		func(p *api.Prog) { p.Dims = []int{65} },
		func(p *api.Prog) { p.Root = 0 },
		func(p *api.Prog) { p.Root = -1 },
		func(p *api.Prog) { p.Root = 99 },
		func(p *api.Prog) { p.Nodes[0].Code = 0 },
		func(p *api.Prog) { p.Nodes[0].Code = glyph.Swap },
		func(p *api.Prog) { p.Nodes[0].Kids = []int{0} },
		func(p *api.Prog) { p.Nodes[1].Kids = []int{1} },
		func(p *api.Prog) { p.Nodes[1].Kids = []int{99} },
		func(p *api.Prog) { p.Nodes[2].Name = "y" },
		func(p *api.Prog) { p.Nodes[2].Kind = 13 },
		func(p *api.Prog) { p.Nodes[2].Kind = 0 },
		func(p *api.Prog) { p.Nodes[0] = api.Node{Kind: tree.Known, Name: "F"} },
		func(p *api.Prog) { p.Defs = []api.Def{{Name: "y", Node: 3}} },
	} {
		p := read(t, "x:\n+⍨x")
		spoil(&p)
		all = append(all, p)
	}
	for _, text := range []string{"x:\ny←1\n+⍨x", "x:\nF←+\n+⍨x", "x:\nF←+\nF⍨x", "x:\ny←x\n+⍨y", "x:\n+⍨y", "x:\nF⍨x"} {
		all = append(all, read(t, text))
	}
	return all
}

// Of a program that isn't flat nothing is told but ErrArg (P22.1 to P22.3).
func TestProgramsThatAreNotFlat(t *testing.T) {
	for _, p := range others(t) {
		fails(t, p, api.ErrArg, 0)
		for i := -1; i <= len(p.Nodes); i++ {
			if f, ok := Scalar(p, i); ok || f != (api.Fn{}) {
				t.Errorf("Scalar(%v, %d): got %v, %t", p, i, f, ok)
			}
			if one, two := Uses(p, i); one || two {
				t.Errorf("Uses(%v, %d): got %t, %t", p, i, one, two)
			}
		}
	}
	// What is wrong with its uses comes behind that.
	p := read(t, "x:\nx~y")
	fails(t, p, api.ErrArg, 0)
}

// Of a place without a node nothing is told (P22.1, P22.2).
func TestPlacesWithoutANode(t *testing.T) {
	p := read(t, "x:\n+⍨x")
	for _, i := range []int{-1, len(p.Nodes), len(p.Nodes) + 1, 1 << 32, math.MinInt, math.MaxInt} {
		if f, ok := Scalar(p, i); ok || f != (api.Fn{}) {
			t.Errorf("Scalar(%d): got %v, %t", i, f, ok)
		}
		if one, two := Uses(p, i); one || two {
			t.Errorf("Uses(%d): got %t, %t", i, one, two)
		}
	}
	if f, ok := Scalar(p, 0); !ok || f != (api.Fn{Code: glyph.Plus}) {
		t.Errorf("Scalar: got %v, %t", f, ok)
	}
}

// signs has those functions that are signs by themselves.
const signs = "+-×÷⋆|⌈⌊=≠<≤>≥∧∨⊣⊢~⍴,⌽⊖⍉↑↓⍳≢⍇⍈/⌿"

// dyads has those that are scalar, with a use with two arguments.
const dyads = "+-×÷⋆|⌈⌊=≠<≤>≥∧∨⊣⊢"

func code(t *testing.T, sign string) int {
	t.Helper()
	c, ok := glyph.Of(sign)
	if !ok {
		t.Fatal("no sign", sign)
	}
	return c
}

// checkScalar tests what the scalar function is that a function comes to: a sign,
// swapped or not; none, if the sign is empty.
func checkScalar(t *testing.T, function, sign string, swap bool) {
	t.Helper()
	p, i := doing(t, function)
	want := api.Fn{}
	if sign != "" {
		want = api.Fn{Code: code(t, sign), Swap: swap}
	}
	if f, ok := Scalar(p, i); f != want || ok != (sign != "") {
		t.Errorf("Scalar of %q: got %v, %t, want %v", function, f, ok, want)
	}
}

func TestScalar(t *testing.T) {
	for _, r := range signs {
		sign := string(r)
		scalar := sign
		if !strings.Contains(dyads, sign) {
			scalar = ""
		}
		checkScalar(t, sign, scalar, false)
		for n := 1; n <= 5; n++ {
			checkScalar(t, "("+sign+")"+strings.Repeat("⍨", n), scalar, n%2 == 1)
		}
	}
	for _, function := range []string{
		"+/", "+⌿", "+\\", "+⍀", "+/⍨", "+⍨/", "+⌺1 2", "+⌺1 2⍨", "+.×", "∘.+", "∘.+⍨", "+-", "+-×", "2-×", "(+-)⍨", "(+-×)⍨⍨",
	} {
		checkScalar(t, function, "", false)
	}
	// Values are none.
	p := read(t, "x:\n(1 2+x)-+x")
	for i, n := range p.Nodes {
		if _, ok := Scalar(p, i); ok != (n.Kind == tree.Prim) {
			t.Errorf("Scalar(%d): got %t", i, ok)
		}
	}
}

// checkUses tests which uses a function has: a text of 1, 2, both or neither.
func checkUses(t *testing.T, function, want string) {
	t.Helper()
	p, i := doing(t, function)
	one, two := Uses(p, i)
	if one != strings.Contains(want, "1") || two != strings.Contains(want, "2") {
		t.Errorf("Uses of %q: got %t, %t, want %q", function, one, two, want)
	}
}

func TestUsesOfSigns(t *testing.T) {
	for _, r := range signs {
		sign, want := string(r), ""
		if strings.Contains("+-×÷⋆|⊣⊢~⍴,⌽⊖⍉⍇⍈⍳≢", sign) {
			want += "1"
		}
		if strings.Contains(dyads+"⍴,⌽⊖⍉⍇⍈↑↓/⌿", sign) {
			want += "2"
		}
		checkUses(t, sign, want)
		// Swapped it has both, if it has one with two.
		both := strings.Repeat("12", strings.Count(want, "2"))
		checkUses(t, "("+sign+")⍨", both)
		checkUses(t, "("+sign+")⍨⍨", both)
		// Folded it has one with one, if it is scalar and has one with two.
		folds, both, two := "", "", ""
		if strings.Contains(dyads, sign) {
			folds, both, two = "1", "12", "2"
		}
		for _, f := range []string{"(" + sign + ")", "(" + sign + ")⍨", "(" + sign + ")⍨⍨"} {
			checkUses(t, f+"/", folds)
			checkUses(t, f+"\\", folds)
			checkUses(t, f+"⍀", folds)
			checkUses(t, f+"⌿", both)
			checkUses(t, f+"⌺0 1", folds)
			checkUses(t, "("+f+").+", two)
			checkUses(t, "+.("+f+")", two)
			checkUses(t, "∘.("+f+")", two)
		}
	}
}

func TestUsesByHand(t *testing.T) {
	for function, want := range map[string]string{
		"+/⍨": "", "+⌿⍨": "12", "+⌿⍨⍨": "12", "+⍀⍨": "", "+⌺1 2⍨": "", "+.×⍨": "12", "∘.×⍨": "12", "+//": "", "+⌿⌿": "", "+⌺1 2/": "", "+.×/": "", "∘.+⌿": "",
		"(+-)/": "", "(+-×)⌿": "", "~.+": "", "+.~": "", "+.(+/)": "", "∘.(+/)": "", "∘.~": "", "+⌺1 2⌺1 2": "", "~⌺1 2": "",
		// Forks: both, if all parts let it.
		"+-×": "12", "~-+": "1", "+-~": "1", "+~×": "", "⌈-⌊": "2", "⌈-+": "2", "+-⌈": "2", "⌈-~": "", "~-⌈": "", "+≢+": "", "+↑+": "12", "+⍳+": "",
		"2-+": "12", "2-⌈": "2", "2-~": "1", "2~+": "", "2↑+": "12", "1 2 3⍴⊢": "12", "2≢+": "", "2-+/": "1", "2-+⌿": "12", "2-+.×": "2", "2(+/)+": "", "2(+⌿)+": "12", "2(+.×)+": "12", "2+⍨+": "12",
		// Atops: the first one is done to one.
		"-+": "12", "-⌈": "2", "⌈-": "", "-~": "1", "~-": "12", "~↑": "2", "↑~": "", "-+/": "1", "-+⌿": "12", "+/+": "12", "+⌿+": "12", "+.×+": "", "≢⍳": "1", "≢≢": "1", "≢,": "12", "~⌈": "2", "∘.+-": "", "-∘.+": "2",
		// Within one another.
		"-(2-+)": "12", "-(2-~)": "1", "(2-⌈)-": "", "2-2-2-⌈": "2", "2-2-2-~": "1", "+-+-~": "1", "(-⌈)-(-⌊)": "2", "(~-)-⌈": "2", "(⌈-)-+": "", "((-⌈)-+)⍨": "12", "((-~)-+)⍨": "", "(2-~)⍨": "", "(~-⌈)⍨": "",
	} {
		checkUses(t, function, want)
	}
	// Values have none.
	p := read(t, "x:\n(1 2+x)-+x")
	for i, n := range p.Nodes {
		if one, two := Uses(p, i); one != (n.Kind == tree.Prim) || two != one {
			t.Errorf("Uses(%d): got %t, %t", i, one, two)
		}
	}
}

func TestValues(t *testing.T) {
	comes(t, read(t, "x:\nx"))
	comes(t, read(t, "x:2 3\nx"))
	comes(t, read(t, "x:\n5"), "Num@0 0 0 [5]")
	comes(t, read(t, "x:\n5 _1 0"), "Num@0 0 0 [5 -1 0]")
	comes(t, read(t, "x:\n-x"), "One@3 F- 0 0")
	comes(t, read(t, "x:\n- 2"), "Num@0 0 0 [2]", "One@3 F- 0 1")
	comes(t, read(t, "x:\nx-x"), "Two@4 F- 0 0")
	comes(t, read(t, "x:\nx-2"), "Num@0 0 0 [2]", "Two@4 F- 0 1")
	comes(t, read(t, "x:\n2-x"), "Num@0 0 0 [2]", "Two@4 F- 1 0")
	// The second value comes first.
	comes(t, read(t, "x:\n2-3"), "Num@0 0 0 [3]", "Num@0 0 0 [2]", "Two@4 F- 2 1")
	comes(t, read(t, "x:\n(-2)×-3"), "Num@0 0 0 [3]", "One@9 F- 0 1", "Num@0 0 0 [2]", "One@4 F- 0 3", "Two@7 F× 4 2")
	// What is done twice is made twice.
	comes(t, read(t, "x:\n(-x)×-x"), "One@9 F- 0 0", "One@4 F- 0 0", "Two@7 F× 2 1")
	comes(t, read(t, "x:\n1-2-3-x"), "Num@0 0 0 [3]", "Two@8 F- 1 0", "Num@0 0 0 [2]", "Two@6 F- 3 2", "Num@0 0 0 [1]", "Two@4 F- 5 4")
	p := read(t, "abc:\n-abc")
	comes(t, p, "One@5 F- 0 0")
}

func TestSigns(t *testing.T) {
	for _, r := range signs {
		sign := string(r)
		one, two := "Alone@4 C"+sign, "Both@6 C"+sign
		if strings.Contains(dyads+"~", sign) {
			one, two = "One@4 F"+sign, "Two@6 F"+sign
		}
		p, i := doing(t, sign)
		if may, _ := Uses(p, i); may {
			comes(t, p, one+" 0 0")
		} else {
			fails(t, p, api.ErrValence, 4)
		}
		p = read(t, "x:\n7("+sign+")x")
		p.Nodes[1].At = 6
		if _, may := Uses(p, 1); may {
			comes(t, p, "Num@0 0 0 [7]", two+" 1 0")
		} else {
			fails(t, p, api.ErrValence, 6)
		}
	}
}

func TestOperators(t *testing.T) {
	comes(t, read(t, "x:\n+/x"), "Reduce@4 F+ 0 0")
	comes(t, read(t, "x:\n-⍨/x"), "Reduce@7 F-⍨ 0 0")
	comes(t, read(t, "x:\n-⍨⍨/x"), "Reduce@10 F- 0 0")
	comes(t, read(t, "x:\n⌈\\x"), "Scan@6 F⌈ 0 0")
	comes(t, read(t, "x:\n+⌿x"), "Down@4 F+ 0 0")
	comes(t, read(t, "x:\n3+⌿x"), "Num@0 0 0 [3]", "Wide@5 F+ 1 0")
	comes(t, read(t, "x:\n3-⍨⌿x"), "Num@0 0 0 [3]", "Wide@8 F-⍨ 1 0")
	comes(t, read(t, "x:\n×⍀x"), "Run@5 F× 0 0")
	comes(t, read(t, "x:\n<⌺2 _1 x"), "Near@4 F< 0 0 [2 -1]")
	comes(t, read(t, "x:\n<⍨⌺0 0 x"), "Near@7 F<⍨ 0 0 [0 0]")
	comes(t, read(t, "x:\n2+.×x"), "Num@0 0 0 [2]", "Inner@5 F+ G× 1 0")
	comes(t, read(t, "x:\n2(-⍨).(÷⍨)x"), "Num@0 0 0 [2]", "Inner@10 F-⍨ G÷⍨ 1 0")
	comes(t, read(t, "x:\n2∘.×x"), "Num@0 0 0 [2]", "Outer@7 G× 1 0")
	comes(t, read(t, "x:\n2∘.(×⍨)x"), "Num@0 0 0 [2]", "Outer@7 G×⍨ 1 0")
}

func TestSwap(t *testing.T) {
	// Of one: to b and b.
	comes(t, read(t, "x:\n-⍨x"), "Two@3 F- 0 0")
	comes(t, read(t, "x:\n-⍨-x"), "One@7 F- 0 0", "Two@3 F- 1 1")
	comes(t, read(t, "x:\n-⍨⍨-x"), "One@10 F- 0 0", "Two@3 F- 1 1")
	comes(t, read(t, "x:\n↑⍨-x"), "One@9 F- 0 0", "Both@3 C↑ 1 1")
	comes(t, read(t, "x:\n+⌿⍨-x"), "One@10 F- 0 0", "Wide@4 F+ 1 1")
	comes(t, read(t, "x:\n+.×⍨-x"), "One@10 F- 0 0", "Inner@4 F+ G× 1 1")
	comes(t, read(t, "x:\n∘.×⍨-x"), "One@12 F- 0 0", "Outer@6 G× 1 1")
	// Of two: to b and a.
	comes(t, read(t, "x:\n2-⍨x"), "Num@0 0 0 [2]", "Two@4 F- 0 1")
	comes(t, read(t, "x:\n2-⍨⍨x"), "Num@0 0 0 [2]", "Two@4 F- 1 0")
	comes(t, read(t, "x:\n2-⍨⍨⍨x"), "Num@0 0 0 [2]", "Two@4 F- 0 1")
	comes(t, read(t, "x:\n3+⌿⍨x"), "Num@0 0 0 [3]", "Wide@5 F+ 0 1")
	comes(t, read(t, "x:\n2⍇⍨x"), "Num@0 0 0 [2]", "Both@4 C⍇ 0 1")
	comes(t, read(t, "x:\n2-.÷⍨x"), "Num@0 0 0 [2]", "Inner@5 F- G÷ 0 1")
	// Of trains.
	comes(t, read(t, "x:\n(2-+)⍨x"), "Two@6 F+ 0 0", "Num@0 0 0 [2]", "Two@5 F- 2 1")
	comes(t, read(t, "x:\n7(÷-+)⍨x"), "Num@0 0 0 [7]", "Two@8 F+ 0 1", "Two@5 F÷ 0 1", "Two@7 F- 3 2")
	comes(t, read(t, "x:\n7(÷-)⍨x"), "Num@0 0 0 [7]", "Two@7 F- 0 1", "One@5 F÷ 0 2")
}

func TestTrains(t *testing.T) {
	// The third part comes first, then the first one, then the second one.
	comes(t, read(t, "x:\n(2×⊢)x"), "One@7 F⊢ 0 0", "Num@0 0 0 [2]", "Two@5 F× 2 1")
	comes(t, read(t, "x:\n(+-×)x"), "One@6 F× 0 0", "One@4 F+ 0 0", "Two@5 F- 2 1")
	comes(t, read(t, "x:\n7(+-×)x"), "Num@0 0 0 [7]", "Two@7 F× 1 0", "Two@5 F+ 1 0", "Two@6 F- 3 2")
	comes(t, read(t, "x:\n7(2 3-×)x"), "Num@0 0 0 [7]", "Two@9 F× 1 0", "Num@0 0 0 [2 3]", "Two@8 F- 3 2")
	comes(t, read(t, "x:\n(+/÷≢)x"), "Alone@8 C≢ 0 0", "Reduce@5 F+ 0 0", "Two@6 F÷ 2 1")
	comes(t, read(t, "x:\n(2(/)-)x"), "One@8 F- 0 0", "Num@0 0 0 [2]", "Both@6 C/ 2 1")
	comes(t, read(t, "x:\n(3+⌿-)x"), "One@9 F- 0 0", "Num@0 0 0 [3]", "Wide@6 F+ 2 1")
	comes(t, read(t, "x:\n(+-⍨×)x"), "One@9 F× 0 0", "One@4 F+ 0 0", "Two@5 F- 1 2")
	comes(t, read(t, "x:\n(1-2÷⊢)x"), "One@9 F⊢ 0 0", "Num@0 0 0 [2]", "Two@7 F÷ 2 1", "Num@0 0 0 [1]", "Two@5 F- 4 3")
	comes(t, read(t, "x:\n(÷-)x"), "One@6 F- 0 0", "One@4 F÷ 0 1")
	comes(t, read(t, "x:\n7(÷-)x"), "Num@0 0 0 [7]", "Two@7 F- 1 0", "One@5 F÷ 0 2")
	comes(t, read(t, "x:\n(~÷-×)x"), "One@8 F× 0 0", "One@5 F÷ 0 0", "Two@7 F- 2 1", "One@4 F~ 0 3")
	comes(t, read(t, "x:\n7(-⍨÷)x"), "Num@0 0 0 [7]", "Two@9 F÷ 1 0", "Two@5 F- 2 2")
	comes(t, read(t, "x:\n7(+/∘.×)x"), "Num@0 0 0 [7]", "Outer@10 G× 1 0", "Reduce@6 F+ 0 2")
}

// Steps stand at their functions' nodes, wherever these stand, and wherever the
// values do.
func TestWhereStepsStand(t *testing.T) {
	p := read(t, "x:\n2(÷-+/)⍨x-1")
	for i := range p.Nodes {
		p.Nodes[i].At = -100 - i
	}
	// 2; ÷, -, +, /, Fork, ⍨; x, -, 1, Two; Two.
	fails(t, p, api.ErrValence, -106)
	p = read(t, "x:\n2(÷-+.×)⍨x-1")
	for i := range p.Nodes {
		p.Nodes[i].At = -100 - i
	}
	// 2; ÷, -, +, ×, Dot, Fork, ⍨; x, -, 1, Two; Two.
	comes(t, p, "Num@0 0 0 [1]", "Two@-109 F- 0 1", "Num@0 0 0 [2]", "Inner@-105 F+ G× 2 3", "Two@-101 F÷ 2 3", "Two@-102 F- 5 4")
	// A function that was a name's stands where that was defined.
	q, _ := scope.Flat(read(t, "x:\nF←-⍨\ny←F x\n2 F y"))
	comes(t, q, "Two@7 F- 0 0", "Num@0 0 0 [2]", "Two@7 F- 1 2")
	q, _ = scope.Flat(read(t, "x:\nF←⍳\ny←-x\n2 F y"))
	fails(t, q, api.ErrValence, 7)
}

func TestFunctionsWithoutSuchAUse(t *testing.T) {
	for _, text := range []string{
		"x:\n^⌈x",
		"x:\n2^~x",
		"x:\n2^⍳x",
		"x:\n^↑x",
		"x:\n^/x",
		"x:\n2+^/x",
		"x:\n2+^\\x",
		"x:\n2+^⍀x",
		"x:\n2+^⌺1 2 x",
		"x:\n⍴^/x",
		"x:\n⍴^⌿x",
		"x:\n3⍴^⌿x",
		"x:\n~^⍨x",
		"x:\n+/^⍨x",
		"x:\n+^.×x",
		"x:\n2+^.~x",
		"x:\n∘^.×x",
		"x:\n2∘^.≢x",
		"x:\n(⌈^-⌊)x",
		"x:\n2(~^-⌊)x",
		"x:\n(+^~⌊)x",
		"x:\n(^⌈-)x",
		"x:\n(^-⌈)x",
		"x:\n2(^-~)x",
		// The second value is gone through first, then the first one.
		"x:\n(⌈x)+^⌈x",
		"x:\n(^⌈x)+-x",
		"x:\n(^⌈x)⍳-x",
		"x:\n(⌈x)⍳^⌈x",
		"x:\n(-x)^⍳-x",
		"x:\n⌈^⌈x",
		"x:\n⌈2+^⌈x",
		"x:\n^⌈2+-x",
		"x:\n(⌈2)+(⌈3)+^⌈4",
		"x:\n(⌈2)+(^⌈3)+-4",
		"x:\n(2~^↑3)⍳1",
		"x:\n((⌈2)+2)+(^⌈3)+-4",
	} {
		failsAt(t, text)
	}
}

// deep tells a program that shares nothing with this one.
func deep(p api.Prog) api.Prog {
	p.Dims = slices.Clone(p.Dims)
	p.Defs = slices.Clone(p.Defs)
	p.Nodes = slices.Clone(p.Nodes)
	for i, n := range p.Nodes {
		p.Nodes[i].Kids = slices.Clone(n.Kids)
		p.Nodes[i].Nums = slices.Clone(n.Nums)
	}
	return p
}

// What is handed in isn't changed or kept, and no two lists of an answer share
// anything (rules 4 and 7).
func TestAnswersAreNewMemory(t *testing.T) {
	p := read(t, "x:2\n1 2+(3 4-+⌺5 6)(⌈⌺7 8)x×9 9")
	was := deep(p)
	l, fault := Of(p)
	if fault.E != api.OK {
		t.Fatal(fault)
	}
	lists := 0
	for i := range l {
		want := slices.Clone(l)
		for j := range want {
			want[j].Nums = slices.Clone(l[j].Nums)
		}
		for j := range l[i].Nums {
			lists++
			l[i].Nums[j] = -77
			want[i].Nums[j] = -77
		}
		_ = append(l[i].Nums, -88)
		if list(l) != list(want) {
			t.Fatalf("got %s, want %s", list(l), list(want))
		}
	}
	if lists != 10 {
		t.Error("not all numbers came", list(l))
	}
	for i := range p.Nodes {
		Scalar(p, i)
		Uses(p, i)
	}
	if !tree.Same(p, was) {
		t.Error("the program was changed", p)
	}
	again, _ := Of(p)
	for i := range p.Nodes {
		clear(p.Nodes[i].Nums)
	}
	if l, _ := Of(was); list(l) != list(again) {
		t.Error("the program was kept", list(again))
	}
}
