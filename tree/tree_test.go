package tree

import (
	"math"
	"slices"
	"strings"
	"testing"

	"riffle/api"
	"riffle/glyph"
)

// A part lays its nodes behind those that are there, and tells the last one's
// place.
type part func(nodes *[]api.Node) int

// of tells the part that a node with these parts is.
func of(n api.Node, parts ...part) part {
	return func(nodes *[]api.Node) int {
		n := n
		n.Kids = nil
		for _, lay := range parts {
			n.Kids = append(n.Kids, lay(nodes))
		}
		n.At = 7 * len(*nodes)
		*nodes = append(*nodes, n)
		return len(*nodes) - 1
	}
}

// The nodes of programs that are written by hand.

func num(nums ...int64) part       { return of(api.Node{Kind: 1, Nums: nums}) }
func variable(name string) part    { return of(api.Node{Kind: 2, Name: name}) }
func one(f, b part) part           { return of(api.Node{Kind: 3}, f, b) }
func two(a, f, b part) part        { return of(api.Node{Kind: 4}, a, f, b) }
func prim(code int) part           { return of(api.Node{Kind: 5, Code: code}) }
func known(name string) part       { return of(api.Node{Kind: 6, Name: name}) }
func op(f part, code int) part     { return of(api.Node{Kind: 7, Code: code}, f) }
func near(f part, a, b int64) part { return of(api.Node{Kind: 8, Nums: []int64{a, b}}, f) }
func dot(f, g part) part           { return of(api.Node{Kind: 9}, f, g) }
func outer(f part) part            { return of(api.Node{Kind: 10}, f) }
func fork(f, g, h part) part       { return of(api.Node{Kind: 11}, f, g, h) }
func atop(f, g part) part          { return of(api.Node{Kind: 12}, f, g) }

// plus is the function that is in most of them.
func plus() part { return prim(glyph.Plus) }

// x is the value that is in most of them.
func x() part { return variable("x") }

// def is a name, and what it is to be.
type def struct {
	name string
	node part
}

// program tells the program of a name, axes, a root and definitions.
func program(name string, dims []int, root part, defs ...def) api.Prog {
	p := api.Prog{Name: name, Dims: dims}
	for i, d := range defs {
		p.Defs = append(p.Defs, api.Def{Name: d.name, At: i, Node: d.node(&p.Nodes)})
	}
	p.Root = root(&p.Nodes)
	return p
}

// rooted tells the program that is a root alone.
func rooted(root part) api.Prog {
	return program("x", nil, root)
}

// all are programs that may be, with nodes of each kind.
func all() []api.Prog {
	return []api.Prog{
		rooted(x()),
		rooted(num(1)),
		rooted(one(plus(), x())),
		rooted(two(num(1, -2), plus(), x())),
		rooted(two(one(plus(), x()), op(plus(), glyph.Bar), one(known("F"), variable("other")))),
		rooted(one(op(op(plus(), glyph.Swap), glyph.Slash), num(3, 4))),
		rooted(one(near(prim(glyph.Max), 3, -1), x())),
		rooted(two(x(), dot(plus(), prim(glyph.Times)), x())),
		rooted(two(x(), outer(prim(glyph.Times)), num(0))),
		rooted(one(fork(plus(), prim(glyph.Over), prim(glyph.Tally)), x())),
		rooted(one(fork(num(2, 3), prim(glyph.Times), fork(known("G"), plus(), atop(plus(), plus()))), x())),
		rooted(two(x(), atop(atop(plus(), plus()), atop(plus(), plus())), x())),
		rooted(one(prim(glyph.Slash), two(num(1), prim(glyph.Bar), x()))),
		program("abc", []int{2, 3}, two(x(), known("F"), variable("y")), def{"y", two(num(1), plus(), x())}, def{"F", fork(num(3), plus(), plus())}),
		program("x", []int{64}, x(), def{"x", x()}, def{"x", num(5)}, def{"F", plus()}, def{"F", near(plus(), 0, 0)}),
		program("x", []int{0, 64, 64}, one(op(plus(), glyph.Back), x()), def{"y", one(plus(), one(plus(), x()))}),
	}
}

// deep tells a program that shares nothing with this one.
func deep(p api.Prog) api.Prog {
	p.Dims = slices.Clone(p.Dims)
	p.Defs = slices.Clone(p.Defs)
	p.Nodes = slices.Clone(p.Nodes)
	for i := range p.Nodes {
		p.Nodes[i] = deepNode(p.Nodes[i])
	}
	return p
}

func deepNode(n api.Node) api.Node {
	n.Kids = append([]int(nil), n.Kids...)
	n.Nums = append([]int64(nil), n.Nums...)
	return n
}

// alike tells whether two nodes are the same, and stand at the same byte.
func alike(a, b api.Node) bool {
	return a.Kind == b.Kind && a.At == b.At && a.Code == b.Code && a.Name == b.Name && slices.Equal(a.Kids, b.Kids) && slices.Equal(a.Nums, b.Nums)
}

func alikeProg(a, b api.Prog) bool {
	return a.Name == b.Name && slices.Equal(a.Dims, b.Dims) && slices.EqualFunc(a.Nodes, b.Nodes, alike) && slices.Equal(a.Defs, b.Defs) && a.Root == b.Root
}

// smallName and greatName tell whether a text is a name of that kind.
func smallName(s string) bool { return isName(s) && s[0] >= 'a' }

func greatName(s string) bool { return isName(s) && s[0] <= 'Z' }

func isName(s string) bool {
	const letters = "abcdefghijklmnopqrstuvwxyzABCDEFGHIJKLMNOPQRSTUVWXYZ"
	return len(s) >= 1 && len(s) <= 20 && strings.Trim(s[:1], letters) == "" && strings.Trim(s, letters+"0123456789") == ""
}

// value and function are the kinds by the document's list.
func value(kind int) bool { return slices.Contains([]int{1, 2, 3, 4}, kind) }

func function(kind int) bool { return slices.Contains([]int{5, 6, 7, 8, 9, 10, 11, 12}, kind) }

// modelRight follows the chapter's words: the order in which the nodes are told
// is to be that in which they stand.
func modelRight(p api.Prog) bool {
	if !smallName(p.Name) || len(p.Nodes) < 1 || len(p.Nodes) > 300 || !modelAxes(p.Dims) {
		return false
	}
	for _, n := range p.Nodes {
		if !modelNode(p, n) {
			return false
		}
	}
	var told []int
	for _, d := range p.Defs {
		told = modelTold(p, d.Node, told)
		kind := modelKind(p, d.Node)
		if !(smallName(d.Name) && value(kind) || greatName(d.Name) && function(kind)) {
			return false
		}
	}
	told = modelTold(p, p.Root, told)
	return value(modelKind(p, p.Root)) && len(told) == len(p.Nodes) && slices.IsSorted(told) && told[0] == 0 && told[len(told)-1] == len(p.Nodes)-1 &&
		len(slices.Compact(slices.Clone(told))) == len(told)
}

func modelAxes(d []int) bool {
	all := 1
	for _, n := range d {
		if n < 0 || n > 64 {
			return false
		}
		all *= n
	}
	return len(d) <= 3 && all <= 64
}

// modelTold tells the places that were told, and then those of a node. A node
// that is told too often would be told for ever.
func modelTold(p api.Prog, i int, told []int) []int {
	if i < 0 || i >= len(p.Nodes) || len(told) > len(p.Nodes) {
		return append(told, -1)
	}
	for _, kid := range p.Nodes[i].Kids {
		if kid >= i {
			return append(told, -1)
		}
		told = modelTold(p, kid, told)
	}
	return append(told, i)
}

// modelKind tells the kind of a node, 0 if there is none.
func modelKind(p api.Prog, i int) int {
	if i < 0 || i >= len(p.Nodes) {
		return 0
	}
	return p.Nodes[i].Kind
}

// modelNode tells whether a node has the parts and fields of its kind.
func modelNode(p api.Prog, n api.Node) bool {
	kinds := ""
	for _, kid := range n.Kids {
		switch kind := modelKind(p, kid); {
		case kind == 1:
			kinds += "n"
		case value(kind):
			kinds += "v"
		case function(kind):
			kinds += "f"
		default:
			kinds += "?"
		}
	}
	values := strings.ReplaceAll(kinds, "n", "v")
	code, nums, name := n.Code == 0, len(n.Nums) == 0, n.Name == ""
	switch n.Kind {
	case 1:
		return kinds == "" && code && len(n.Nums) >= 1 && len(n.Nums) <= 64 && name
	case 2:
		return kinds == "" && code && nums && smallName(n.Name)
	case 3:
		return values == "fv" && code && nums && name
	case 4:
		return values == "vfv" && code && nums && name
	case 5:
		return kinds == "" && n.Code >= 1 && n.Code <= 32 && nums && name
	case 6:
		return kinds == "" && code && nums && greatName(n.Name)
	case 7:
		return kinds == "f" && slices.Contains([]int{31, 32, 33, 34, 38}, n.Code) && nums && name
	case 8:
		return kinds == "f" && code && len(n.Nums) == 2 && name
	case 9, 12:
		return kinds == "ff" && code && nums && name
	case 10:
		return kinds == "f" && code && nums && name
	case 11:
		return (kinds == "fff" || kinds == "nff") && code && nums && name
	}
	return false
}

// checkRight holds what Right tells against the model, and looks whether the
// program is left as it was.
func checkRight(t *testing.T, p api.Prog) {
	t.Helper()
	was := deep(p)
	if got, want := Right(p), modelRight(p); got != want {
		t.Fatalf("Right(%+v): got %t", p, got)
	}
	if !alikeProg(p, was) {
		t.Fatalf("Right changed %+v to %+v", was, p)
	}
}

func TestKindsHaveTheirNumbers(t *testing.T) {
	kinds := []int{Num, Var, One, Two, Prim, Known, Op, Near, Dot, Outer, Fork, Atop}
	for i, kind := range kinds {
		if kind != i+1 {
			t.Errorf("the constant of %d is %d", i+1, kind)
		}
	}
}

func TestValueAndFunction(t *testing.T) {
	for _, kind := range []int{math.MinInt, -12, -4, -1, 0, 1, 2, 3, 4, 5, 6, 7, 8, 9, 10, 11, 12, 13, 14, 100, 1<<32 + 1, 1<<32 + 5, math.MaxInt} {
		if got := Value(kind); got != value(kind) {
			t.Errorf("Value(%d): got %t", kind, got)
		}
		if got := Function(kind); got != function(kind) {
			t.Errorf("Function(%d): got %t", kind, got)
		}
	}
}

func TestNodeTellsEachNode(t *testing.T) {
	wrong := rooted(two(num(1, 2), plus(), x()))
	wrong.Root, wrong.Name = 99, "X"
	wrong.Nodes = append(wrong.Nodes, api.Node{Kind: 77, At: -3, Code: 88, Kids: []int{-9}, Nums: []int64{5}, Name: "?"}, api.Node{})
	for _, p := range append(all(), wrong, api.Prog{}) {
		was := deep(p)
		for i, want := range was.Nodes {
			n, ok := Node(p, i)
			if !ok || !alike(n, want) {
				t.Errorf("Node(%+v, %d): got %+v, %t", p, i, n, ok)
			}
			for j := range n.Kids {
				n.Kids[j] = -5
			}
			for j := range n.Nums {
				n.Nums[j] = -5
			}
			if !alikeProg(p, was) {
				t.Fatalf("Node(%+v, %d) shares memory with the program", was, i)
			}
		}
		for _, i := range []int{-1, len(p.Nodes), len(p.Nodes) + 1, math.MinInt, math.MaxInt, 1 << 32} {
			if n, ok := Node(p, i); ok || !alike(n, api.Node{}) {
				t.Errorf("Node(%+v, %d): got %+v, %t", p, i, n, ok)
			}
		}
	}
}

func TestRightOfProgramsThatMayBe(t *testing.T) {
	for _, p := range all() {
		if !Right(p) {
			t.Errorf("may be: %+v", p)
		}
		checkRight(t, p)
	}
	p := rooted(one(plus(), x()))
	for i := range p.Nodes {
		p.Nodes[i].At, p.Nodes[i].Nums = -7*i, []int64{}
	}
	p.Nodes[0].Kids, p.Dims, p.Defs = []int{}, []int{}, []api.Def{}
	if !Right(p) {
		t.Errorf("may be, with empty lists, and whatever At: %+v", p)
	}
	if Right(api.Prog{}) || Right(api.Prog{Name: "x"}) {
		t.Error("no nodes")
	}
}

// names are some that may be, and some that may not.
func names() []string {
	return []string{"", "x", "y2", "F", "Mean", "x_", "_", "1", "F ", "xé", strings.Repeat("x", 20), strings.Repeat("x", 21), strings.Repeat("F", 20), strings.Repeat("F", 21)}
}

func TestRightOfNamesAndAxes(t *testing.T) {
	for _, s := range names() {
		checkRight(t, program(s, nil, x()))
		checkRight(t, rooted(variable(s)))
		checkRight(t, rooted(one(known(s), x())))
		checkRight(t, program("x", nil, x(), def{s, num(1)}))
		checkRight(t, program("x", nil, x(), def{s, one(plus(), x())}))
		checkRight(t, program("x", nil, x(), def{s, plus()}))
		checkRight(t, program("x", nil, x(), def{"F", plus()}, def{s, op(plus(), glyph.Swap)}))
	}
	for _, d := range [][]int{{}, {0}, {1}, {64}, {65}, {-1}, {8, 8}, {8, 9}, {2, 3, 4}, {4, 4, 5}, {64, 0, 64}, {1, 1, 1}, {1, 1, 1, 1}, {1 << 32, 1 << 32}, {math.MinInt}, {65, 0}} {
		checkRight(t, program("x", d, x()))
	}
}

func TestRightOfEachFieldChanged(t *testing.T) {
	nums := [][]int64{nil, {1}, {1, 2}, {1, 2, 3}, make([]int64, 64), make([]int64, 65)}
	for _, p := range all() {
		for i, n := range p.Nodes {
			other := deep(p)
			changed := &other.Nodes[i]
			for kind := -1; kind <= 14; kind++ {
				changed.Kind = kind
				checkRight(t, other)
				for _, l := range nums {
					changed.Nums = l
					checkRight(t, other)
				}
				changed.Nums = n.Nums
			}
			changed.Kind = n.Kind
			for code := -1; code <= 45; code++ {
				changed.Code = code
				checkRight(t, other)
			}
			changed.Code = n.Code
			for _, s := range names() {
				changed.Name = s
				checkRight(t, other)
			}
			changed.Name = n.Name
			for _, kids := range kidLists(len(p.Nodes), n.Kids) {
				changed.Kids = kids
				checkRight(t, other)
			}
		}
	}
}

// TestRightOfAllParts: each kind with up to four parts, of all kinds.
func TestRightOfAllParts(t *testing.T) {
	some := []part{num(1), x(), one(plus(), x()), two(x(), plus(), x()), plus(), known("F"), op(plus(), glyph.Bar), fork(num(1), plus(), plus())}
	lists := [][]part{nil}
	for from, n := 0, 0; n < 4; n++ {
		to := len(lists)
		for _, l := range lists[from:to] {
			for _, p := range some {
				lists = append(lists, append(slices.Clone(l), p))
			}
		}
		from = to
	}
	found := map[int]int{}
	for _, l := range lists {
		for _, n := range []api.Node{
			{Kind: Num, Nums: []int64{1}}, {Kind: Var, Name: "x"}, {Kind: One}, {Kind: Two}, {Kind: Prim, Code: 1}, {Kind: Known, Name: "F"},
			{Kind: Op, Code: 32}, {Kind: Near, Nums: []int64{1, 2}}, {Kind: Dot}, {Kind: Outer}, {Kind: Fork}, {Kind: Atop},
		} {
			p := rooted(of(n, l...))
			if function(n.Kind) {
				p = rooted(one(of(n, l...), x()))
			}
			checkRight(t, p)
			if Right(p) {
				found[n.Kind]++
			}
		}
	}
	// Of eight parts four are functions, and four values.
	for kind, want := range map[int]int{Num: 1, Var: 1, One: 16, Two: 64, Prim: 1, Known: 1, Op: 4, Near: 4, Dot: 16, Outer: 4, Fork: 80, Atop: 16} {
		if found[kind] != want {
			t.Errorf("of the kind %d, %d may be, want %d", kind, found[kind], want)
		}
	}
}

// kidLists tells lists like this one, with another place, one more, or one less.
func kidLists(nodes int, kids []int) [][]int {
	l := [][]int{nil, {-1}, {nodes}, {math.MinInt, math.MaxInt}, make([]int, 1000)}
	for place := -1; place <= nodes; place++ {
		l = append(l, append(slices.Clone(kids), place), append([]int{place}, kids...))
		for i := range kids {
			other := slices.Clone(kids)
			other[i] = place
			l = append(l, other, slices.Delete(slices.Clone(kids), i, i+1))
		}
	}
	return l
}

func TestRightOfRootsAndDefinitions(t *testing.T) {
	for _, p := range all() {
		for place := -2; place <= len(p.Nodes)+1; place++ {
			other := deep(p)
			other.Root = place
			checkRight(t, other)
			for i := range p.Defs {
				other = deep(p)
				other.Defs[i].Node = place
				checkRight(t, other)
			}
			for _, s := range []string{"y", "F", ""} {
				for i := range len(p.Defs) + 1 {
					other = deep(p)
					other.Defs = slices.Insert(other.Defs, i, api.Def{Name: s, Node: place})
					checkRight(t, other)
				}
			}
		}
		for i := range p.Defs {
			other := deep(p)
			other.Defs = slices.Delete(other.Defs, i, i+1)
			checkRight(t, other)
			other = deep(p)
			other.Defs[0], other.Defs[i] = other.Defs[i], other.Defs[0]
			checkRight(t, other)
		}
		for _, extra := range []api.Node{{}, {Kind: 2, Name: "x"}, {Kind: 5, Code: 1}} {
			for i := range len(p.Nodes) + 1 {
				other := deep(p)
				other.Nodes = slices.Insert(other.Nodes, i, extra)
				checkRight(t, other)
				other.Root++
				checkRight(t, other)
			}
		}
	}
	function := program("x", nil, plus())
	if Right(function) {
		t.Error("the root is a function")
	}
	many := rooted(x())
	many.Defs = slices.Repeat([]api.Def{{Name: "x"}}, 100000)
	if Right(many) {
		t.Error("more definitions than nodes")
	}
}

// TestRightOfAllSmallPrograms: of three nodes at most, with all parts that these
// may have.
func TestRightOfAllSmallPrograms(t *testing.T) {
	candidates := []api.Node{{Kind: Var, Name: "x"}, {Kind: Prim, Code: 1}, {Kind: Num, Nums: []int64{1}}, {Kind: Two, Kids: []int{0, 1, 0}}}
	for i := range 3 {
		candidates = append(candidates, api.Node{Kind: Op, Code: 31, Kids: []int{i}})
		for j := range 3 {
			candidates = append(candidates, api.Node{Kind: One, Kids: []int{i, j}}, api.Node{Kind: Atop, Kids: []int{i, j}})
		}
	}
	found := 0
	for _, a := range candidates {
		for _, b := range candidates {
			for _, c := range candidates {
				for root := range 3 {
					nodes := []api.Node{a, b, c}
					p := api.Prog{Name: "x", Nodes: nodes, Root: root}
					checkRight(t, p)
					p.Defs = []api.Def{{Name: "F", Node: 0}}
					checkRight(t, p)
					p.Defs = []api.Def{{Name: "y", Node: 1}}
					checkRight(t, p)
					p.Defs = []api.Def{{Name: "y", Node: 0}, {Name: "F", Node: 1}}
					checkRight(t, p)
					if Right(p) {
						found++
					}
				}
			}
		}
	}
	if found == 0 {
		t.Error("no program with two definitions")
	}
}

// tower tells a function of so many nodes, each above the one before.
func tower(n int) part {
	f := plus()
	for range n - 1 {
		f = op(f, glyph.Swap)
	}
	return f
}

// rows tells definitions of so many nodes.
func rows(n int) []def {
	var l []def
	for range n {
		l = append(l, def{"y", x()})
	}
	return l
}

func TestRightByHowManyNodes(t *testing.T) {
	for _, n := range []int{299, 300, 301, 302, 1000} {
		for _, p := range []api.Prog{rooted(one(tower(n-2), x())), program("x", nil, x(), rows(n-1)...)} {
			if len(p.Nodes) != n || Right(p) != (n <= 300) {
				t.Errorf("of %d nodes: got %t", n, Right(p))
			}
		}
	}
}

func TestSame(t *testing.T) {
	programs := append(all(), api.Prog{}, api.Prog{Name: "X", Root: -5}, api.Prog{Nodes: []api.Node{{Kind: 99, Kids: []int{7}}}})
	for i, a := range programs {
		for j, b := range programs {
			if got := Same(a, deep(b)); got != (i == j) {
				t.Errorf("Same(%+v, %+v): got %t", a, b, got)
			}
		}
		moved := deep(a)
		for j := range moved.Nodes {
			moved.Nodes[j].At += 5
		}
		for j := range moved.Defs {
			moved.Defs[j].At -= 5
		}
		if !Same(a, moved) || !Same(moved, a) {
			t.Errorf("Same of %+v, with another At", a)
		}
	}
	bare := api.Prog{Name: "x", Nodes: []api.Node{{Kind: 1}}}
	empty := api.Prog{Name: "x", Dims: []int{}, Nodes: []api.Node{{Kind: 1, Kids: []int{}, Nums: []int64{}}}, Defs: []api.Def{}}
	if !Same(bare, empty) || !Same(empty, bare) {
		t.Error("Same of nil and empty lists")
	}
}

func TestSameOfEachFieldChanged(t *testing.T) {
	for _, p := range all() {
		last := len(p.Nodes) - 1
		changes := []func(p *api.Prog){
			func(p *api.Prog) { p.Name += "y" },
			func(p *api.Prog) { p.Dims = append(p.Dims, 1) },
			func(p *api.Prog) { p.Root-- },
			func(p *api.Prog) { p.Nodes = p.Nodes[:last] },
			func(p *api.Prog) { p.Nodes = append(p.Nodes, api.Node{}) },
			func(p *api.Prog) { p.Defs = append(p.Defs, api.Def{}) },
		}
		for i := range p.Dims {
			changes = append(changes, func(p *api.Prog) { p.Dims[i]++ })
		}
		for i := range p.Nodes {
			changes = append(changes,
				func(p *api.Prog) { p.Nodes[i].Kind++ }, func(p *api.Prog) { p.Nodes[i].Code++ }, func(p *api.Prog) { p.Nodes[i].Name += "y" },
				func(p *api.Prog) { p.Nodes[i].Kids = append(p.Nodes[i].Kids, 0) }, func(p *api.Prog) { p.Nodes[i].Nums = append(p.Nodes[i].Nums, 0) })
			if len(p.Nodes[i].Kids) > 0 {
				changes = append(changes, func(p *api.Prog) { p.Nodes[i].Kids[0]++ })
			}
			if len(p.Nodes[i].Nums) > 0 {
				changes = append(changes, func(p *api.Prog) { p.Nodes[i].Nums[0]++ })
			}
		}
		for i := range p.Defs {
			changes = append(changes, func(p *api.Prog) { p.Defs[i].Name += "y" }, func(p *api.Prog) { p.Defs[i].Node++ })
		}
		for i, change := range changes {
			other := deep(p)
			change(&other)
			if Same(p, other) || Same(other, p) {
				t.Errorf("the change %d of %+v to %+v is the same", i, p, other)
			}
		}
	}
}

// step is what is told in a walk.
type step struct {
	place int
	node  api.Node
}

// walked tells all that is told in a walk.
func walked(p api.Prog, i int) []step {
	var l []step
	for place, n := range Walk(p, i) {
		l = append(l, step{place, n})
	}
	return l
}

// modelWalk follows the chapter's words.
func modelWalk(p api.Prog, i int) []step {
	l := []step{{i, p.Nodes[i]}}
	for _, kid := range p.Nodes[i].Kids {
		l = append(l, modelWalk(p, kid)...)
	}
	return l
}

func alikeStep(a, b step) bool {
	return a.place == b.place && alike(a.node, b.node)
}

func TestWalkByHand(t *testing.T) {
	p := rooted(two(num(2), plus(), one(op(prim(glyph.Max), glyph.Slash), x())))
	var places []int
	for place := range Walk(p, p.Root) {
		places = append(places, place)
	}
	if !slices.Equal(places, []int{6, 0, 1, 5, 3, 2, 4}) {
		t.Errorf("Walk: got %d", places)
	}
}

func TestWalkTellsANodeAndThoseBelow(t *testing.T) {
	for _, p := range all() {
		was := deep(p)
		for i := range p.Nodes {
			if got := walked(p, i); !slices.EqualFunc(got, modelWalk(p, i), alikeStep) {
				t.Errorf("Walk(%+v, %d): got %+v", p, i, got)
			}
		}
		if !alikeProg(p, was) {
			t.Errorf("Walk changed %+v to %+v", was, p)
		}
	}
}

// TestWalkTellsARowOfNodes: the nodes that stand right up to it, each once
// (P18.4).
func TestWalkTellsARowOfNodes(t *testing.T) {
	for _, p := range append(all(), rooted(one(tower(298), x()))) {
		for i := range p.Nodes {
			var places []int
			for _, s := range walked(p, i) {
				places = append(places, s.place)
			}
			slices.Sort(places)
			for j, place := range places {
				if place != i+1-len(places)+j {
					t.Errorf("Walk(%+v, %d): %d", p, i, places)
				}
			}
		}
	}
}

func TestWalkGoesOnAsLongAsWhoAsks(t *testing.T) {
	for _, p := range all() {
		all := modelWalk(p, p.Root)
		for stop := 1; stop <= len(all); stop++ {
			var got []step
			asked := 0
			Walk(p, p.Root)(func(place int, n api.Node) bool {
				asked++
				got = append(got, step{place, n})
				return len(got) < stop
			})
			if asked != stop || !slices.EqualFunc(got, all[:stop], alikeStep) {
				t.Errorf("Walk(%+v) up to the %dth: got %+v", p, stop, got)
			}
		}
	}
}

func TestWalkCanBeGoneAgain(t *testing.T) {
	p := rooted(two(num(2, 3), near(plus(), 1, 2), one(plus(), x())))
	want := modelWalk(deep(p), p.Root)
	walk := Walk(p, p.Root)
	for range 2 {
		var got []step
		for place, n := range walk {
			inner := 0
			for range walk {
				inner++
			}
			if inner != len(want) {
				t.Fatalf("Walk within Walk: %d", inner)
			}
			got = append(got, step{place, deepNode(n)})
			// What was told is changed, and what was handed in.
			for i := range n.Kids {
				n.Kids[i] = 0
			}
			for i := range n.Nums {
				n.Nums[i] = 99
			}
			p.Nodes[place] = api.Node{Kind: Var, Name: "z"}
		}
		if !slices.EqualFunc(got, want, alikeStep) {
			t.Errorf("Walk: got %+v, want %+v", got, want)
		}
	}
}

func TestWalkKeepsNothing(t *testing.T) {
	p := rooted(two(num(2, 3), plus(), x()))
	want := modelWalk(deep(p), p.Root)
	walk := Walk(p, p.Root)
	p.Nodes[0].Nums[0], p.Nodes[3].Kids[0], p.Nodes[1].Code = 77, 2, 99
	var got []step
	for place, n := range walk {
		got = append(got, step{place, n})
	}
	if !slices.EqualFunc(got, want, alikeStep) {
		t.Errorf("Walk of what was changed behind the call: got %+v", got)
	}
}

// wrongs are programs that may not be, some of which go round.
func wrongs() []api.Prog {
	var l []api.Prog
	for range 9 {
		l = append(l, rooted(two(num(2), plus(), one(plus(), x()))))
	}
	l[0].Name = "X"
	l[1].Dims = []int{65}
	l[2].Root = 4
	l[3].Nodes[5].Kids[2] = 5
	l[4].Nodes[4].Kids[1] = 5
	l[5].Nodes[1].Code = 0
	l[6].Defs = []api.Def{{Name: "y"}}
	l[7].Nodes[5].Kids[0] = -1
	l[8].Nodes[5].Kids[0] = 99
	return append(l, rooted(one(tower(299), x())), program("x", nil, plus()), api.Prog{})
}

func TestWalkAndHighOfNothing(t *testing.T) {
	for _, p := range wrongs() {
		for i := -1; i <= len(p.Nodes); i++ {
			if got := walked(p, i); len(got) != 0 || High(p, i) != 0 {
				t.Errorf("of a program that may not be, %+v, %d: Walk %+v, High %d", p, i, got, High(p, i))
			}
		}
	}
	for _, p := range all() {
		for _, i := range []int{-1, -2, len(p.Nodes), len(p.Nodes) + 1, math.MinInt, math.MaxInt, 1 << 32} {
			if got := walked(p, i); len(got) != 0 || High(p, i) != 0 {
				t.Errorf("of no node, %+v, %d: Walk %+v, High %d", p, i, got, High(p, i))
			}
		}
	}
}

func TestHighByHand(t *testing.T) {
	for _, c := range []struct {
		root part
		want int
	}{
		{x(), 1}, {num(1, 2), 1}, {one(plus(), x()), 2}, {two(x(), plus(), x()), 2}, {one(op(plus(), glyph.Slash), x()), 3},
		{two(one(plus(), one(plus(), x())), plus(), x()), 4}, {two(x(), plus(), one(plus(), one(plus(), x()))), 4}, {two(x(), tower(7), x()), 8},
		{one(fork(num(1), plus(), near(plus(), 1, 1)), x()), 4}, {one(dot(plus(), outer(plus())), x()), 4}, {one(tower(298), x()), 299},
	} {
		p := rooted(c.root)
		if got := High(p, p.Root); got != c.want {
			t.Errorf("High(%+v): got %d, want %d", p, got, c.want)
		}
	}
}

// TestHighIsOneMoreThanItsHighestPart: P18.4.
func TestHighIsOneMoreThanItsHighestPart(t *testing.T) {
	for _, p := range append(all(), rooted(one(tower(298), x()))) {
		was := deep(p)
		for i, n := range p.Nodes {
			highest := 0
			for _, kid := range n.Kids {
				highest = max(highest, High(p, kid))
			}
			if got := High(p, i); got != highest+1 {
				t.Errorf("High(%+v, %d): got %d, want %d", p, i, got, highest+1)
			}
		}
		if !alikeProg(p, was) {
			t.Errorf("High changed %+v to %+v", was, p)
		}
	}
}
