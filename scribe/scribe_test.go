package scribe

import (
	"math"
	"slices"
	"strings"
	"testing"

	"riffle/api"
	"riffle/glyph"
	"riffle/parse"
	"riffle/token"
	"riffle/tree"
)

// part is a node with its parts.
type part struct {
	node  api.Node
	parts []part
}

// The nodes of programs that are written by hand.

func num(nums ...int64) part    { return part{node: api.Node{Kind: tree.Num, Nums: nums}} }
func variable(name string) part { return part{node: api.Node{Kind: tree.Var, Name: name}} }
func one(f, b part) part        { return part{api.Node{Kind: tree.One}, []part{f, b}} }
func two(a, f, b part) part     { return part{api.Node{Kind: tree.Two}, []part{a, f, b}} }
func prim(code int) part        { return part{node: api.Node{Kind: tree.Prim, Code: code}} }
func known(name string) part    { return part{node: api.Node{Kind: tree.Known, Name: name}} }
func op(f part, code int) part  { return part{api.Node{Kind: tree.Op, Code: code}, []part{f}} }
func near(f part, a, b int64) part {
	return part{api.Node{Kind: tree.Near, Nums: []int64{a, b}}, []part{f}}
}
func dot(f, g part) part     { return part{api.Node{Kind: tree.Dot}, []part{f, g}} }
func outer(f part) part      { return part{api.Node{Kind: tree.Outer}, []part{f}} }
func fork(f, g, h part) part { return part{api.Node{Kind: tree.Fork}, []part{f, g, h}} }
func atop(f, g part) part    { return part{api.Node{Kind: tree.Atop}, []part{f, g}} }

func x() part     { return variable("x") }
func plus() part  { return prim(glyph.Plus) }
func minus() part { return prim(glyph.Minus) }
func times() part { return prim(glyph.Times) }
func slash() part { return prim(glyph.Slash) }

// lay lays a part's nodes behind those of a program, and tells its place.
func lay(p *api.Prog, all part) int {
	n := all.node
	n.At = 5 * len(p.Nodes)
	n.Nums = slices.Clone(n.Nums)
	for _, part := range all.parts {
		n.Kids = append(n.Kids, lay(p, part))
	}
	p.Nodes = append(p.Nodes, n)
	return len(p.Nodes) - 1
}

// def is a name, and what it is to be.
type def struct {
	name string
	node part
}

// program tells the program of a root, definitions and axes.
func program(root part, dims []int, defs ...def) api.Prog {
	p := api.Prog{Name: "x", Dims: dims}
	for _, d := range defs {
		p.Defs = append(p.Defs, api.Def{Name: d.name, At: 3, Node: lay(&p, d.node)})
	}
	p.Root = lay(&p, root)
	return p
}

// rooted tells the program that is a root alone.
func rooted(root part) api.Prog {
	return program(root, nil)
}

// writes tests that a program is written so, and is read as the same (P20.6).
func writes(t *testing.T, p api.Prog, want string) {
	t.Helper()
	if !tree.Right(p) {
		t.Errorf("%q: no program that may be", want)
	}
	s, e := Text(p)
	if s != want || e != api.OK {
		t.Errorf("got %q, %d, want %q", s, e, want)
	}
	back, fault := parse.Text(s)
	if fault.E != api.OK || !tree.Same(p, back) {
		t.Errorf("%q is read as %v, %v", s, back, fault)
	}
}

// fails tests that a program has this error, and no text.
func fails(t *testing.T, p api.Prog, want api.Errno) {
	t.Helper()
	if s, e := Text(p); s != "" || e != want {
		t.Errorf("got %q, %d, want %d", s, e, want)
	}
}

func TestProgramsThatMayNotBe(t *testing.T) {
	fails(t, api.Prog{}, api.ErrArg)
	for _, spoil := range []func(p *api.Prog){
		func(p *api.Prog) { p.Name = "X" },
		func(p *api.Prog) { p.Name = "" },
		func(p *api.Prog) { p.Dims = []int{65} },
		func(p *api.Prog) { p.Nodes = nil },
		func(p *api.Prog) { p.Root = 0 },
		func(p *api.Prog) { p.Root = 99 },
		func(p *api.Prog) { p.Root = -1 },
		func(p *api.Prog) { p.Defs = []api.Def{{Name: "y", Node: 0}} },
		func(p *api.Prog) { p.Nodes[0].Kind = 13 },
		func(p *api.Prog) { p.Nodes[2].Kids = []int{0, 7} },
		func(p *api.Prog) { p.Nodes[2].Kids = []int{2, 2} },
		func(p *api.Prog) { p.Nodes[0].Code = glyph.Back },
		func(p *api.Prog) { p.Nodes[1].Name = "" },
	} {
		p := rooted(one(plus(), x()))
		spoil(&p)
		fails(t, p, api.ErrArg)
	}
}

func TestHeads(t *testing.T) {
	writes(t, program(x(), nil), "x:\nx")
	writes(t, program(x(), []int{}), "x:\nx")
	writes(t, program(x(), []int{3}), "x:3\nx")
	writes(t, program(x(), []int{0}), "x:0\nx")
	writes(t, program(x(), []int{2, 0, 64}), "x:2 0 64\nx")
	p := rooted(x())
	p.Name = "pricesOf2"
	writes(t, p, "pricesOf2:\nx")
}

func TestDefinitions(t *testing.T) {
	writes(t, program(x(), nil, def{"y", num(2)}), "x:\ny←2\nx")
	writes(t, program(x(), []int{3}, def{"y2", two(x(), plus(), x())}, def{"F", plus()}, def{"y2", x()}), "x:3\ny2←x+x\nF←+\ny2←x\nx")
	writes(t, program(x(), nil, def{"F", slash()}), "x:\nF←(/)\nx")
	writes(t, program(x(), nil, def{"F", op(plus(), glyph.Bar)}), "x:\nF←+⌿\nx")
	writes(t, program(x(), nil, def{"F", near(plus(), 1, 2)}), "x:\nF←(+⌺1 2)\nx")
	writes(t, program(x(), nil, def{"F", dot(plus(), times())}), "x:\nF←+.×\nx")
	writes(t, program(x(), nil, def{"F", outer(plus())}), "x:\nF←∘.+\nx")
	writes(t, program(x(), nil, def{"F", known("G")}), "x:\nF←G\nx")
	writes(t, program(x(), nil, def{"F", fork(num(2), plus(), minus())}), "x:\nF←2+-\nx")
	writes(t, program(x(), nil, def{"F", atop(plus(), minus())}), "x:\nF←+-\nx")
}

func TestValues(t *testing.T) {
	writes(t, rooted(num(1, -2, 0)), "x:\n1 ¯2 0")
	writes(t, rooted(num(math.MinInt64, math.MaxInt64)), "x:\n¯9223372036854775808 9223372036854775807")
	writes(t, rooted(one(minus(), one(plus(), x()))), "x:\n-+x")
	writes(t, rooted(two(x(), plus(), two(num(2), minus(), x()))), "x:\nx+2-x")
	writes(t, rooted(two(one(minus(), x()), plus(), x())), "x:\n(-x)+x")
	writes(t, rooted(two(two(x(), plus(), x()), plus(), x())), "x:\n(x+x)+x")
	writes(t, rooted(one(minus(), two(two(x(), plus(), x()), plus(), x()))), "x:\n-(x+x)+x")
	writes(t, rooted(two(num(2), plus(), one(op(prim(glyph.Max), glyph.Slash), x()))), "x:\n2+⌈/x")
}

func TestBlanks(t *testing.T) {
	writes(t, rooted(two(variable("a"), known("F"), num(2))), "x:\na F 2")
	writes(t, rooted(two(num(7), known("F2"), num(2))), "x:\n7 F2 2")
	writes(t, rooted(two(num(7), known("F"), num(-2))), "x:\n7 F¯2")
	writes(t, rooted(two(num(7, -8), known("Z"), variable("z"))), "x:\n7 ¯8 Z z")
	writes(t, rooted(two(num(0), known("A9"), variable("a0Z"))), "x:\n0 A9 a0Z")
	writes(t, rooted(one(known("F"), two(one(known("G"), x()), plus(), x()))), "x:\nF(G x)+x")
	writes(t, rooted(one(atop(known("F"), known("G")), x())), "x:\n(F G)x")
	writes(t, rooted(one(fork(num(1, 2), known("F"), known("G")), num(1))), "x:\n(1 2 F G)1")
	writes(t, rooted(one(dot(known("F"), known("G")), num(1))), "x:\nF.G 1")
	writes(t, program(x(), nil, def{"F", known("G")}, def{"v", num(1)}), "x:\nF←G\nv←1\nx")
}

func TestFunctions(t *testing.T) {
	over := func(f part) api.Prog { return rooted(one(f, x())) }
	writes(t, over(slash()), "x:\n(/)x")
	writes(t, over(prim(glyph.Bar)), "x:\n(⌿)x")
	writes(t, rooted(two(num(1, 0), slash(), x())), "x:\n1 0/x")
	writes(t, rooted(two(one(minus(), x()), prim(glyph.Bar), x())), "x:\n(-x)⌿x")
	writes(t, rooted(one(minus(), two(num(1), slash(), one(slash(), x())))), "x:\n-1/(/)x")
	writes(t, rooted(two(num(1), op(slash(), glyph.Swap), x())), "x:\n1(/)⍨x")
	writes(t, over(op(op(op(op(op(plus(), 31), 32), 33), 34), 38)), "x:\n+/⌿\\⍀⍨x")
	writes(t, over(op(slash(), glyph.Slash)), "x:\n(/)/x")
	writes(t, over(near(near(slash(), -1, 2), 3, 4)), "x:\n(((/)⌺¯1 2)⌺3 4)x")
	writes(t, over(near(op(dot(plus(), times()), glyph.Slash), 0, 0)), "x:\n(+.×/⌺0 0)x")
	writes(t, over(dot(slash(), slash())), "x:\n(/).(/)x")
	writes(t, over(dot(op(plus(), glyph.Slash), op(minus(), glyph.Swap))), "x:\n(+/).(-⍨)x")
	writes(t, over(dot(dot(plus(), minus()), outer(times()))), "x:\n(+.-).(∘.×)x")
	writes(t, over(dot(near(plus(), 1, 1), known("F"))), "x:\n(+⌺1 1).F x")
	writes(t, over(dot(fork(plus(), minus(), times()), atop(plus(), minus()))), "x:\n(+-×).(+-)x")
	writes(t, over(op(dot(plus(), times()), glyph.Slash)), "x:\n+.×/x")
	writes(t, over(outer(plus())), "x:\n∘.+x")
	writes(t, over(outer(slash())), "x:\n∘.(/)x")
	writes(t, over(outer(op(plus(), glyph.Slash))), "x:\n∘.(+/)x")
	writes(t, over(outer(outer(dot(plus(), minus())))), "x:\n∘.(∘.(+.-))x")
	writes(t, over(op(outer(plus()), glyph.Swap)), "x:\n∘.+⍨x")
	writes(t, over(fork(plus(), minus(), times())), "x:\n(+-×)x")
	writes(t, over(op(fork(num(-1, 2), minus(), times()), glyph.Slash)), "x:\n(¯1 2-×)/x")
	writes(t, over(op(atop(minus(), times()), glyph.Slash)), "x:\n(-×)/x")
}

func TestTrains(t *testing.T) {
	as := func(f part) api.Prog { return program(x(), nil, def{"F", f}) }
	writes(t, as(fork(plus(), minus(), fork(num(1), times(), slash()))), "x:\nF←+-1×(/)\nx")
	writes(t, as(fork(plus(), minus(), atop(times(), slash()))), "x:\nF←+-(×(/))\nx")
	writes(t, as(fork(fork(plus(), minus(), times()), atop(plus(), minus()), times())), "x:\nF←(+-×)(+-)×\nx")
	writes(t, as(fork(atop(plus(), minus()), fork(num(1), plus(), minus()), times())), "x:\nF←(+-)(1+-)×\nx")
	writes(t, as(atop(plus(), fork(num(2), minus(), times()))), "x:\nF←+2-×\nx")
	writes(t, as(atop(plus(), atop(minus(), times()))), "x:\nF←+(-×)\nx")
	writes(t, as(atop(atop(plus(), minus()), times())), "x:\nF←(+-)×\nx")
	writes(t, as(atop(fork(plus(), minus(), times()), times())), "x:\nF←(+-×)×\nx")
	writes(t, as(fork(dot(plus(), minus()), outer(times()), near(plus(), 1, 2))), "x:\nF←+.-∘.×(+⌺1 2)\nx")
	writes(t, as(fork(num(1), op(plus(), glyph.Slash), fork(num(2), known("G"), known("H")))), "x:\nF←1+/2 G H\nx")
	writes(t, rooted(one(atop(plus(), fork(num(2), minus(), fork(plus(), minus(), times()))), x())), "x:\n(+2-+-×)x")
}

// chain is a value behind so many Ones of minus, with a token and a byte each.
func chain(most int, of part) part {
	for range most {
		of = one(minus(), of)
	}
	return of
}

// nested is a value within so many parentheses.
func nested(most int) part {
	v := x()
	for range most {
		v = two(one(minus(), v), plus(), x())
	}
	return v
}

// stacked is a function with so many parentheses around its Prim.
func stacked(most int) part {
	f := plus()
	for range most {
		f = near(f, 1, 1)
	}
	return f
}

func TestTooManyBytes(t *testing.T) {
	// 3 bytes, 64 numbers of 19 digits with 63 blanks, a sign, 35 such numbers
	// with a blank each, and the last one: 1983 bytes and its digits.
	long := func(last int64) api.Prog {
		nums := slices.Repeat([]int64{1234567890123456789}, 64)
		return rooted(two(num(nums...), plus(), num(append(nums[:35:35], last)...)))
	}
	if s, e := Text(long(12345678901234567)); e != api.OK || len(s) != api.MaxText {
		t.Errorf("of MaxText bytes: %d bytes, %d", len(s), e)
	}
	fails(t, long(123456789012345678), api.ErrMany)
	// The sign ¯ has two bytes.
	if s, e := Text(long(-123456789012345)); e != api.OK || len(s) != api.MaxText {
		t.Errorf("of MaxText bytes: %d bytes, %d", len(s), e)
	}
	fails(t, long(-1234567890123456), api.ErrMany)
	// As many nodes as there may be, of as many digits.
	v := x()
	for range 99 {
		v = two(num(slices.Repeat([]int64{math.MinInt64}, 64)...), plus(), v)
	}
	if p := rooted(v); !tree.Right(p) {
		t.Error("no program that may be")
	}
	fails(t, rooted(v), api.ErrMany)
}

func TestTooManyTokens(t *testing.T) {
	// 2 tokens of the head, 4 of each definition, the last End, and the root's.
	defs := slices.Repeat([]def{{"y", x()}}, 99)
	s, e := Text(program(x(), nil, defs...))
	if toks, _ := token.Lex(s); e != api.OK || len(toks) != api.MaxTokens {
		t.Errorf("of MaxTokens tokens: %d, %d", len(toks), e)
	}
	fails(t, program(chain(1, x()), nil, defs...), api.ErrMany)
	fails(t, program(x(), []int{2}, defs...), api.ErrMany)
	// Numbers of one node are one token.
	writes(t, program(num(1, 2, 3), nil, defs...), "x:\n"+strings.Repeat("y←x\n", 99)+"1 2 3")
	writes(t, program(chain(3, x()), []int{2, 2, 2}, defs[1:]...), "x:2 2 2\n"+strings.Repeat("y←x\n", 98)+"---x")
	fails(t, program(chain(4, x()), []int{2, 2, 2}, defs[1:]...), api.ErrMany)
}

func TestTooDeep(t *testing.T) {
	writes(t, rooted(nested(16)), "x:\n"+strings.Repeat("(-", 16)+"x"+strings.Repeat(")+x", 16))
	fails(t, rooted(nested(17)), api.ErrDepth)
	writes(t, rooted(one(stacked(16), x())), "x:\n"+strings.Repeat("(", 16)+"+"+strings.Repeat("⌺1 1)", 16)+"x")
	fails(t, rooted(one(stacked(17), x())), api.ErrDepth)
	fails(t, program(x(), nil, def{"F", stacked(17)}), api.ErrDepth)
	// One behind another one isn't within it.
	writes(t, rooted(one(stacked(16), nested(16))), "x:\n"+strings.Repeat("(", 16)+"+"+strings.Repeat("⌺1 1)", 16)+strings.Repeat("(-", 16)+"x"+strings.Repeat(")+x", 16))
}

func TestErrorsByOrder(t *testing.T) {
	// Too deep, and too much.
	deep := program(nested(17), nil, slices.Repeat([]def{{"y", x()}}, 99)...)
	if !tree.Right(deep) {
		t.Error("no program that may be")
	}
	fails(t, deep, api.ErrMany)
	deep.Name = "X"
	fails(t, deep, api.ErrArg)
}
