package scope

import (
	"slices"
	"strconv"
	"strings"
	"testing"

	"riffle/api"
	"riffle/glyph"
	"riffle/parse"
	"riffle/tree"
)

// part is a node with its parts.
type part struct {
	node  api.Node
	parts []part
}

// The nodes of programs that are written by hand.

func num(nums ...int64) part    { return part{node: api.Node{Kind: tree.Num, Nums: nums}} }
func variable(name string) part { return part{node: api.Node{Kind: tree.Var, Name: name}} }
func one(f, b part) part        { return part{api.Node{Kind: tree.One}, []part{f, b}} }
func two(a, f, b part) part     { return part{api.Node{Kind: tree.Two}, []part{a, f, b}} }
func prim(code int) part        { return part{node: api.Node{Kind: tree.Prim, Code: code}} }
func known(name string) part    { return part{node: api.Node{Kind: tree.Known, Name: name}} }
func op(f part, code int) part  { return part{api.Node{Kind: tree.Op, Code: code}, []part{f}} }
func near(f part, a, b int64) part {
	return part{api.Node{Kind: tree.Near, Nums: []int64{a, b}}, []part{f}}
}
func dot(f, g part) part     { return part{api.Node{Kind: tree.Dot}, []part{f, g}} }
func outer(f part) part      { return part{api.Node{Kind: tree.Outer}, []part{f}} }
func fork(f, g, h part) part { return part{api.Node{Kind: tree.Fork}, []part{f, g, h}} }
func atop(f, g part) part    { return part{api.Node{Kind: tree.Atop}, []part{f, g}} }

func x() part     { return variable("x") }
func plus() part  { return prim(glyph.Plus) }
func times() part { return prim(glyph.Times) }

// at tells a part that stands there.
func at(place int, p part) part {
	p.node.At = place
	return p
}

// lay lays a part's nodes behind others, and tells them, the last one being its
// own.
func lay(nodes []api.Node, all part) []api.Node {
	n := all.node
	n.Nums = slices.Clone(n.Nums)
	n.Kids = nil
	for _, part := range all.parts {
		nodes = lay(nodes, part)
		n.Kids = append(n.Kids, len(nodes)-1)
	}
	return append(nodes, n)
}

// def is a name, where it stands, and what it is to be.
type def struct {
	name string
	at   int
	node part
}

// program tells the program of x, of axes, a root and definitions.
func program(dims []int, root part, defs ...def) api.Prog {
	p := api.Prog{Name: "x", Dims: dims}
	for _, d := range defs {
		p.Nodes = lay(p.Nodes, d.node)
		p.Defs = append(p.Defs, api.Def{Name: d.name, At: d.at, Node: len(p.Nodes) - 1})
	}
	p.Nodes = lay(p.Nodes, root)
	p.Root = len(p.Nodes) - 1
	return p
}

// grown tells the part that the node at a place is.
func grown(p api.Prog, i int) part {
	n, _ := tree.Node(p, i)
	all := part{node: n}
	for _, kid := range n.Kids {
		all.parts = append(all.parts, grown(p, kid))
	}
	return all
}

// read tells the program that a text is.
func read(t *testing.T, text string) api.Prog {
	t.Helper()
	p, fault := parse.Text(text)
	if fault.E != api.OK {
		t.Fatalf("%q: %v", text, fault)
	}
	return p
}

// zero tells whether a program is the zero one.
func zero(p api.Prog) bool {
	return p.Name == "" && len(p.Dims)+len(p.Nodes)+len(p.Defs)+p.Root == 0
}

// alike tells whether two programs are the same, and stand at the same bytes.
func alike(a, b api.Prog) bool {
	return tree.Same(a, b) && slices.Equal(a.Defs, b.Defs) &&
		slices.EqualFunc(a.Nodes, b.Nodes, func(m, n api.Node) bool { return m.At == n.At })
}

// fails tests that a program has this fault, and no other program.
func fails(t *testing.T, p api.Prog, e api.Errno, at int) {
	t.Helper()
	if q, fault := Flat(p); fault != (api.Fault{E: e, At: at}) || !zero(q) {
		t.Errorf("%v: got %v, %v, want %d at %d", p, q, fault, e, at)
	}
}

// failsAt tests that a text's program has an error where the mark ^ stands in
// it.
func failsAt(t *testing.T, text string, e api.Errno) {
	t.Helper()
	ahead, behind, _ := strings.Cut(text, "^")
	fails(t, read(t, ahead+behind), e, len(ahead))
}

// comes tests that a program comes to one without names, and which.
func comes(t *testing.T, p, want api.Prog) {
	t.Helper()
	q, fault := Flat(p)
	if fault != (api.Fault{}) || !alike(q, want) {
		t.Fatalf("%v:\ngot  %v, %v\nwant %v", p, q, fault, want)
	}
	flat(t, q)
}

// flat tests that a program may be, and has no names but its own (P21.3).
func flat(t *testing.T, q api.Prog) {
	t.Helper()
	if !tree.Right(q) || len(q.Defs) != 0 {
		t.Fatalf("%v may not be, or has definitions", q)
	}
	for _, n := range q.Nodes {
		if n.Kind == tree.Known || n.Kind == tree.Var && n.Name != q.Name {
			t.Fatalf("%v has the name %s", q, n.Name)
		}
	}
}

// What may not be is told ahead of all else (P21.1).
func TestProgramsThatMayNotBe(t *testing.T) {
	fails(t, api.Prog{}, api.ErrArg, 0)
	for _, spoil := range []func(p *api.Prog){
		func(p *api.Prog) { p.Name = "X" },
		func(p *api.Prog) { p.Name = "" },
		func(p *api.Prog) { p.Dims = []int{65} },
		func(p *api.Prog) { p.Nodes = nil },
		func(p *api.Prog) { p.Root = 0 },
		func(p *api.Prog) { p.Root = 99 },
		func(p *api.Prog) { p.Root = -1 },
		func(p *api.Prog) { p.Defs = nil },
		func(p *api.Prog) { p.Defs[0].Node = 1 },
		func(p *api.Prog) { p.Defs[0].Node = -1 },
		func(p *api.Prog) { p.Defs[0].Node = 1 << 40 },
		func(p *api.Prog) { p.Defs[0].Name = "Y" },
		func(p *api.Prog) { p.Nodes[0].Kind = 13 },
		func(p *api.Prog) { p.Nodes[1].Name = "y" },
		func(p *api.Prog) { p.Nodes[3].Kids = []int{1, 7} },
		func(p *api.Prog) { p.Nodes[3].Kids = []int{3, 3} },
	} {
		p := program(nil, one(plus(), variable("z")), def{"x", 3, num(1)})
		fails(t, p, api.ErrTwice, 3)
		spoil(&p)
		fails(t, p, api.ErrArg, 0)
	}
}

func TestFlatByHand(t *testing.T) {
	comes(t, program(nil, at(7, x())), program(nil, at(7, x())))
	comes(t, program([]int{2, 3}, at(7, num(1, 2))), program([]int{2, 3}, at(7, num(1, 2))))
	comes(t,
		program([]int{4}, at(9, variable("y")), def{"y", 3, at(5, num(8))}),
		program([]int{4}, at(5, num(8))))
	comes(t,
		program(nil, at(12, one(at(12, known("F")), at(14, x()))), def{"F", 3, at(6, op(at(5, plus()), glyph.Swap))}),
		program(nil, at(12, one(at(6, op(at(5, plus()), glyph.Swap)), at(14, x())))))
	// Of x, y←2, x+y: Var, Prim, Num, Two.
	comes(t,
		program(nil, at(10, two(at(8, x()), at(10, plus()), at(12, variable("y")))), def{"y", 3, at(5, num(2))}),
		program(nil, at(10, two(at(8, x()), at(10, plus()), at(5, num(2))))))
	// At is kept, whatever it is.
	comes(t,
		program(nil, at(-7, one(at(1<<40, known("F")), at(-1, variable("y")))), def{"y", -3, at(-5, num(2))}, def{"F", -3, at(-8, plus())}),
		program(nil, at(-7, one(at(-8, plus()), at(-5, num(2))))))
}

// A name may stand wherever a value, or a function, may.
func TestNamesStandAnywhere(t *testing.T) {
	y, f := variable("y"), known("F")
	sum, each := two(num(1, 2), plus(), x()), fork(num(3), times(), plus())
	defs := []def{{"y", 3, sum}, {"F", 9, each}}
	for _, c := range []struct{ named, want part }{
		{one(plus(), y), one(plus(), sum)},
		{one(f, x()), one(each, x())},
		{one(f, y), one(each, sum)},
		{two(y, plus(), x()), two(sum, plus(), x())},
		{two(x(), f, num(1)), two(x(), each, num(1))},
		{two(x(), plus(), y), two(x(), plus(), sum)},
		{two(y, f, y), two(sum, each, sum)},
		{one(op(f, glyph.Slash), x()), one(op(each, glyph.Slash), x())},
		{one(op(op(f, glyph.Swap), glyph.Bar), x()), one(op(op(each, glyph.Swap), glyph.Bar), x())},
		{one(near(f, 1, -2), x()), one(near(each, 1, -2), x())},
		{one(dot(f, plus()), x()), one(dot(each, plus()), x())},
		{one(dot(plus(), f), x()), one(dot(plus(), each), x())},
		{one(outer(f), x()), one(outer(each), x())},
		{one(fork(f, f, f), x()), one(fork(each, each, each), x())},
		{one(fork(num(7), plus(), f), x()), one(fork(num(7), plus(), each), x())},
		{one(atop(f, plus()), x()), one(atop(each, plus()), x())},
		{one(atop(plus(), f), x()), one(atop(plus(), each), x())},
	} {
		comes(t, program([]int{3}, c.named, defs...), program([]int{3}, c.want))
	}
}

// What a name means may have names ahead of it in it, whose meaning is put in
// likewise (P21.2).
func TestNamesWithinNames(t *testing.T) {
	for text, want := range map[string]string{
		"x:\ny←2\nx+y":                         "x:\nx+2",
		"x:\ny←x\ny+y":                         "x:\nx+x",
		"x:2\ny←2\nz←y\ny2←z\ny2":              "x:2\n2",
		"x:\nF←+\nG←F/\nH←(G-F)\nx H x":        "x:\nx ((+/)-+) x",
		"x:\nF←3×⊢\ny←F x\nG←F÷≢\nG y":         "x:\n((3×⊢)÷≢) (3×⊢) x",
		"x:\nMean←2÷⍨2+⌿⊢\ny←Mean x\ny-Mean y": "x:\n((2÷⍨2+⌿⊢)x)-(2÷⍨2+⌿⊢)(2÷⍨2+⌿⊢)x",
		"x:\ny←1\nx":                           "x:\nx",
		"x:\nF←+\nf←x\nf F f":                  "x:\nx+x",
		"x2:\nx←x2\nX←-\nX x":                  "x2:\n-x2",
		"b:\na←b+1\nc←a×a\nd←c-a\nd":           "b:\n((b+1)×b+1)-b+1",
	} {
		q, fault := Flat(read(t, text))
		if fault.E != api.OK || !tree.Same(q, read(t, want)) {
			t.Errorf("%q: got %v, %v, want %q", text, q, fault, want)
			continue
		}
		flat(t, q)
	}
}

// All stands where it stood, in its definition or in the expression (P21.2).
func TestWhereNodesStand(t *testing.T) {
	text := "x:\ny←2×x\nF←+⍨\nx F y"
	q, fault := Flat(read(t, text))
	places := ""
	for _, n := range q.Nodes {
		places += strconv.Itoa(n.At) + " "
	}
	// x, + and ⍨; 2, ×, x and their Two; and the Two, which stands at F still.
	if want := "21 16 17 7 8 10 8 23 "; fault.E != api.OK || places != want {
		t.Errorf("got %q, %v, want %q", places, fault, want)
	}
}

func TestUnknownNames(t *testing.T) {
	for _, text := range []string{
		"x:\n^y",
		"x:\n^F x",
		"x:\nx ^F x",
		"x:\nx+^y",
		"x:\n^z+y",
		"x:\n^z F y",
		"x:\n^F y",
		"x:\n(+^F)y",
		"x:\n(^F G)y",
		"x:\n^F.G y",
		"x:\n∘.^F y",
		"x:\n(2 3^F+)y",
		"x:\n^F⌺1 2 y",
		"x:\ny←^y\nx",
		"x:\nF←^F\nx",
		"x:\nF←^F/\nF x",
		"x:\ny←^z\nz←1\nx",
		"x:\nF←^G\nG←+\nF x",
		"x:\ny←1\n^z",
		"x:\ny←1\n^Y x",
		"x:\nY←+\n^y",
		"x:\n^X x",
		"x:\ny←^a\nz←b\nc",
		"x:\ny←1\nz←^b\nc",
		"x:\ny←1\nz←y\n^c",
		"x:\n^xx",
		"x:\ny2←1\n^y",
		"x:\nY←+\nx+^Yy x",
		"x:\ny←2+^a×b\nx",
		"prices:3\nx←prices\n^y+x",
		"prices:3\n^x",
	} {
		failsAt(t, text, api.ErrName)
	}
	// By the nodes' order, not by where they stand.
	fails(t, program(nil, two(at(9, variable("y")), at(5, known("F")), at(2, variable("z")))), api.ErrName, 9)
	fails(t, program(nil, two(x(), at(5, known("F")), at(2, variable("z")))), api.ErrName, 5)
	fails(t, program(nil, one(at(-5, known("F")), at(2, variable("z")))), api.ErrName, -5)
}

func TestNamesThatComeTwice(t *testing.T) {
	for _, text := range []string{
		"x:\n^x←1\nx",
		"x:\n^x←x\nx",
		"x:\ny←1\n^y←1\nx",
		"x:\ny←1\n^y←y\nx",
		"x:\ny←1\n^x←1\nx",
		"x:\nF←+\n^F←-\nx",
		"x:\nF←+\ny←1\n^F←F\nF y",
		"x:\na←1\nb←2\n^b←3\na←4\nx",
		"x:\nlonger←1\n ^longer←2\n x",
	} {
		failsAt(t, text, api.ErrTwice)
	}
	if q, fault := Flat(read(t, "x:\nX←+\ny←2\nY←-\nX y")); fault.E != api.OK {
		t.Error("small and great names are not the same:", q, fault)
	}
}

// What is wrong is told statement by statement; in one, ErrName first (P21.1).
func TestFaultsByOrder(t *testing.T) {
	for text, e := range map[string]api.Errno{
		"x:\nx←^y\nx":          api.ErrName,
		"x:\n^x←1\ny←z\nx":     api.ErrTwice,
		"x:\ny←^z\nx←1\nx":     api.ErrName,
		"x:\n^x←1\nz":          api.ErrTwice,
		"x:\ny←1\ny←^z\nx":     api.ErrName,
		"x:\ny←1\n^y←1\nz":     api.ErrTwice,
		"x:\nF←^F\nF←+\nF F x": api.ErrName,
	} {
		failsAt(t, text, e)
	}
	// Too many nodes come last.
	many, _ := doubled(9)
	fails(t, read(t, many+"y9"), api.ErrMany, 0)
	failsAt(t, many+"y9+^z", api.ErrName)
	failsAt(t, many+"^y1←1\ny9", api.ErrTwice)
	failsAt(t, many+"z←y9+^a\ny9", api.ErrName)
}

// doubled tells a head, and definitions of y0 to a last one, each of which is
// the one ahead twice, and how many nodes the last one comes to; 0, if that
// can't be told.
func doubled(last int) (string, int) {
	text, n := "x:\ny0←x\n", 1
	for i := 1; i <= last; i++ {
		ahead := "y" + strconv.Itoa(i-1)
		text += "y" + strconv.Itoa(i) + "←" + ahead + "+" + ahead + "\n"
		n = 2*n + 2
	}
	if last > 50 {
		n = 0
	}
	return text, n
}

// However many there would be, it is told that there are too many; those of a
// definition that isn't used are not counted (P21.1).
func TestFarTooManyNodes(t *testing.T) {
	for last := range 64 {
		text, n := doubled(last)
		p := read(t, text+"y"+strconv.Itoa(last))
		if n == 0 || n > api.MaxNodes {
			fails(t, p, api.ErrMany, 0)
		} else if q, fault := Flat(p); fault.E != api.OK || len(q.Nodes) != n {
			t.Errorf("%d: got %d nodes, %v, want %d", last, len(q.Nodes), fault, n)
		}
		comes(t, read(t, text+"x"), program(nil, at(len(text), x())))
	}
}

// checkMany tests that a program comes to so many nodes, or to an error.
func checkMany(t *testing.T, p api.Prog, total int, e api.Errno) {
	t.Helper()
	want := modelled(p)
	if len(want.Nodes) != total {
		t.Fatalf("the model has %d nodes, not %d", len(want.Nodes), total)
	}
	if e == api.OK {
		comes(t, p, want)
	} else {
		fails(t, p, e, 0)
	}
}

// swapped tells a function with so many nodes.
func swapped(size int) part {
	f := plus()
	for range size - 1 {
		f = op(f, glyph.Swap)
	}
	return f
}

// By just as many as there may be, and one more, with names in the place of
// which few nodes stand, or many (P21.1).
func TestTooManyNodesByOne(t *testing.T) {
	met := 0
	for used := range 6 {
		for size := 1; size <= 140; size++ {
			// A use of F is size nodes and a One, y is size nodes and 2; a Prim and a
			// Two join them.
			root, defs := x(), []def{{"F", 3, swapped(size)}, {"y", 4, one(known("F"), x())}}
			for range used {
				root = two(one(known("F"), root), plus(), variable("y"))
			}
			base := 1 + used*(size+1+size+2+2)
			for total := api.MaxNodes - 1; total <= api.MaxNodes+2; total++ {
				more := total - base - 1
				if more < 1 {
					continue
				}
				p := program(nil, one(swapped(more), root), defs...)
				if len(p.Nodes) > api.MaxNodes {
					continue
				}
				e := api.OK
				if total > api.MaxNodes {
					e = api.ErrMany
				}
				checkMany(t, p, total, e)
				met++
			}
		}
	}
	if met < 300 {
		t.Error("too few were tried:", met)
	}
}

// modelled is what a program that has nothing wrong comes to, by the chapter's
// words: in the place of each name its definition, in which the same was done.
func modelled(p api.Prog) api.Prog {
	meant := func(name string) (part, bool) { return part{}, false }
	var written func(all part) part
	written = func(all part) part {
		if mean, ok := meant(all.node.Name); ok {
			return mean
		}
		out := part{node: all.node}
		for _, part := range all.parts {
			out.parts = append(out.parts, written(part))
		}
		return out
	}
	for _, d := range p.Defs {
		ahead, body := meant, written(grown(p, d.Node))
		meant = func(name string) (part, bool) {
			if name == d.Name {
				return body, true
			}
			return ahead(name)
		}
	}
	nodes := lay(nil, written(grown(p, p.Root)))
	return api.Prog{Name: p.Name, Dims: p.Dims, Nodes: nodes, Root: len(nodes) - 1}
}

// modelFault is what is wrong with a program that may be, but for there being
// too many nodes.
func modelFault(p api.Prog) api.Fault {
	var ahead []string
	statements := append(slices.Clone(p.Defs), api.Def{Node: p.Root})
	for s, d := range statements {
		for i := 0; i <= d.Node; i++ {
			// Nodes of earlier statements have no name that isn't known by now.
			n := p.Nodes[i]
			if n.Name != "" && n.Name != p.Name && !slices.Contains(ahead, n.Name) {
				return api.Fault{E: api.ErrName, At: n.At}
			}
		}
		if s < len(p.Defs) && (d.Name == p.Name || slices.Contains(ahead, d.Name)) {
			return api.Fault{E: api.ErrTwice, At: d.At}
		}
		ahead = append(ahead, d.Name)
	}
	return api.Fault{}
}

// trees tells all values, and all functions, with up to most nodes.
func trees(most int) (values, functions [][]part) {
	values = [][]part{nil, {num(7), x(), variable("y"), variable("z")}}
	functions = [][]part{nil, {plus(), known("F"), known("G")}}
	for size := 2; size <= most; size++ {
		var vs, fs []part
		for _, g := range functions[size-1] {
			fs = append(fs, op(g, glyph.Slash), near(g, 1, -2), outer(g))
		}
		for a := 1; a < size-1; a++ {
			for _, left := range functions[a] {
				for _, right := range functions[size-1-a] {
					fs = append(fs, dot(left, right), atop(left, right))
				}
				for _, right := range values[size-1-a] {
					vs = append(vs, one(left, right))
				}
			}
		}
		if size == 4 {
			for _, g := range functions[1] {
				for _, left := range values[1] {
					for _, right := range values[1] {
						vs = append(vs, two(left, g, right))
					}
				}
				for _, h := range functions[1] {
					fs = append(fs, fork(num(1, 2), g, h), fork(h, g, h))
				}
			}
		}
		values, functions = append(values, vs), append(functions, fs)
	}
	return values, functions
}

// checkModel holds what a program comes to against the model.
func checkModel(t *testing.T, p api.Prog) bool {
	t.Helper()
	for i := range p.Nodes {
		p.Nodes[i].At = 3 + 5*i
	}
	for i := range p.Defs {
		p.Defs[i].At = 1000 + i
	}
	if fault := modelFault(p); fault.E != api.OK {
		fails(t, p, fault.E, fault.At)
		return false
	}
	want := modelled(p)
	comes(t, p, want)
	comes(t, want, want)
	return true
}

// All small programs of up to three definitions (P21.1 to P21.3).
func TestAllSmallPrograms(t *testing.T) {
	values, functions := trees(4)
	var roots []part
	for _, some := range values {
		roots = append(roots, some...)
	}
	bodies := []def{{name: "x", node: num(2)}}
	for _, name := range []string{"y", "z"} {
		for _, size := range []int{1, 3} {
			for i, v := range values[size] {
				if size == 1 || i%5 == 0 {
					bodies = append(bodies, def{name: name, node: v})
				}
			}
		}
	}
	for _, name := range []string{"F", "G"} {
		for _, size := range []int{1, 2, 3} {
			for i, f := range functions[size] {
				if size == 1 || i%4 == 0 {
					bodies = append(bodies, def{name: name, node: f})
				}
			}
		}
	}
	met := 0
	for i, root := range roots {
		for j, d := range bodies {
			if checkModel(t, program([]int{2}, root, d)) {
				met++
			}
			for k, e := range bodies {
				if (i+j+k)%3 == 0 && checkModel(t, program(nil, root, d, e)) {
					met++
				}
				if l := (i + 7*j + 3*k) % len(bodies); checkModel(t, program(nil, root, d, e, bodies[l])) {
					met++
				}
			}
		}
	}
	if met < 1000 {
		t.Error("too few had nothing wrong:", met)
	}
}

// A program without definitions is as it was (P21.3).
func TestProgramsWithoutDefinitions(t *testing.T) {
	for _, text := range []string{"x:\nx", "x:2 3\n5 _1", "x:\n(2×⊢)x", "x:3\n(1⍈x)-+⍀x", "x:\nx(+⌺1 2)∘.×⍨/x-(÷/⌽)x"} {
		p := read(t, text)
		comes(t, p, p)
	}
	p := program([]int{}, one(plus(), x()))
	p.Defs = []api.Def{}
	for i := range p.Nodes {
		p.Nodes[i].Kids, p.Nodes[i].Nums = append([]int{}, p.Nodes[i].Kids...), []int64{}
	}
	comes(t, p, p)
}

// What is written in the place of a name, in parentheses, comes to the same
// (P21.3).
func TestNamesAreTextsInParentheses(t *testing.T) {
	values := []string{"2", "x", "x+1", "1 _2", "-x", "3+⌿x", "(x)×x"}
	functions := []string{"+", "/", "+⍨", "⌈/", "2×⊢", "+÷≢", "-+", "+⌺1 2", "+.×", "∘.+", "(+-)/", "2-3+⊢"}
	uses := []string{"F y", "y F x", "y F y", "F/y", "(2 F ⊢)y", "(F-F)y", "F.+y", "x∘.F y", "F.F F y", "F⌺2 3⍨y", "y(F F)x", "2 3+F 4-y", "(F)(y)"}
	for _, v := range values {
		for _, f := range functions {
			for _, use := range uses {
				named := read(t, "x:4\ny←"+v+"\nF←"+f+"\n"+use)
				text := strings.NewReplacer("y", "("+v+")", "F", "("+f+")").Replace(use)
				q, fault := Flat(named)
				if fault.E != api.OK || !tree.Same(q, read(t, "x:4\n"+text)) {
					t.Fatalf("%q of %q and %q: got %v, %v, want %q", use, v, f, q, fault, text)
				}
			}
		}
	}
}

// deep tells a program that shares nothing with this one.
func deep(p api.Prog) api.Prog {
	p.Dims = slices.Clone(p.Dims)
	p.Defs = slices.Clone(p.Defs)
	p.Nodes = slices.Clone(p.Nodes)
	for i, n := range p.Nodes {
		p.Nodes[i].Kids = slices.Clone(n.Kids)
		p.Nodes[i].Nums = slices.Clone(n.Nums)
	}
	return p
}

// What is handed in isn't changed or kept, and no two lists of an answer share
// anything (rules 4 and 7).
func TestAnswersAreNewMemory(t *testing.T) {
	p := program([]int{2, 3},
		two(variable("y"), known("F"), two(variable("y"), known("F"), num(9, 9))),
		def{"y", 3, two(num(1, 2), plus(), x())}, def{"F", 4, fork(num(5, 6), times(), near(plus(), 3, 4))})
	was := deep(p)
	q, fault := Flat(p)
	if fault.E != api.OK || !alike(p, was) {
		t.Fatal("changed", p, fault)
	}
	for i := range q.Nodes {
		want := deep(q)
		n := &q.Nodes[i]
		for j := range n.Nums {
			n.Nums[j] = -77
			want.Nodes[i].Nums[j] = -77
		}
		for j := range n.Kids {
			n.Kids[j] = -77
			want.Nodes[i].Kids[j] = -77
		}
		_, _ = append(n.Nums, -88), append(n.Kids, -88)
		n.At = -99
		want.Nodes[i].At = -99
		if !alike(q, want) {
			t.Fatalf("the node %d shares lists with others: %v, want %v", i, q, want)
		}
	}
	q.Dims[0] = 64
	if !alike(p, was) {
		t.Error("the answer shares lists with the argument", p)
	}
	if again, _ := Flat(p); !alike(again, modelled(was)) {
		t.Error("told otherwise again", again)
	}
}
