package steps

import (
	"fmt"
	"slices"
	"strings"
	"testing"

	"riffle/api"
	"riffle/glyph"
	"riffle/scope"
	"riffle/tree"
)

// A modelled program is gone through by the chapter's words, as a tree of
// functions of places; what is told is written as text.

// model is a program, and the steps so far.
type model struct {
	p     api.Prog
	steps []string
}

// add writes a step, and tells its place.
func (m *model) add(kind string, at int, what string, args []int, nums ...int64) int {
	a, b := 0, args[len(args)-1]
	if len(args) == 2 {
		a = args[0]
	}
	s := fmt.Sprintf("%s@%d%s %d %d", kind, at, what, a, b)
	if len(nums) > 0 {
		s += fmt.Sprint(" ", nums)
	}
	m.steps = append(m.steps, s)
	return len(m.steps) - 1
}

// dyad tells the scalar function that a node is, as text; empty, if none.
func (m *model) dyad(i int) string {
	n := m.p.Nodes[i]
	sign := glyph.Sign(n.Code)
	switch {
	case n.Kind == tree.Prim && strings.Contains(dyads, sign):
		return sign
	case n.Kind == tree.Op && sign == "⍨":
		f := m.dyad(n.Kids[0])
		if f == "" {
			return ""
		}
		return strings.TrimSuffix(f+"⍨", "⍨⍨")
	}
	return ""
}

// function tells what a node does to so many arguments, given their places;
// nil, if it has no such use.
func (m *model) function(i, count int) func(args []int) int {
	n := m.p.Nodes[i]
	part := func(k, count int) func(args []int) int { return m.function(n.Kids[k], count) }
	sign := glyph.Sign(n.Code)
	switch n.Kind {
	case tree.Prim:
		return m.sign(n, sign, count)
	case tree.Op:
		if sign == "⍨" {
			f := part(0, 2)
			if f == nil {
				return nil
			}
			return func(args []int) int { return f([]int{args[len(args)-1], args[0]}) }
		}
		kind := map[string]string{"/": "Reduce", "\\": "Scan", "⍀": "Run", "⌿": "Down"}[sign]
		if count == 2 && sign != "⌿" {
			return nil
		}
		if count == 2 {
			kind = "Wide"
		}
		return m.folds(n, kind)
	case tree.Near:
		if count == 2 {
			return nil
		}
		return m.folds(n, "Near", n.Nums...)
	case tree.Dot:
		f, g := m.dyad(n.Kids[0]), m.dyad(n.Kids[1])
		if count == 1 || f == "" || g == "" {
			return nil
		}
		return func(args []int) int { return m.add("Inner", n.At, " F"+f+" G"+g, args) }
	case tree.Outer:
		g := m.dyad(n.Kids[0])
		if count == 1 || g == "" {
			return nil
		}
		return func(args []int) int { return m.add("Outer", n.At, " G"+g, args) }
	case tree.Fork:
		f, g, h := part(0, count), part(1, 2), part(2, count)
		if first := m.p.Nodes[n.Kids[0]]; first.Kind == tree.Num {
			f = func([]int) int { return m.add("Num", 0, "", []int{0}, first.Nums...) }
		}
		if f == nil || g == nil || h == nil {
			return nil
		}
		return func(args []int) int {
			right := h(args)
			return g([]int{f(args), right})
		}
	case tree.Atop:
		f, g := part(0, 1), part(1, count)
		if f == nil || g == nil {
			return nil
		}
		return func(args []int) int { return f([]int{g(args)}) }
	}
	return nil
}

// sign tells what a Prim does.
func (m *model) sign(n api.Node, sign string, count int) func(args []int) int {
	uses := map[int]string{1: "+-×÷⋆|⊣⊢~⍴,⌽⊖⍉⍇⍈⍳≢", 2: dyads + "⍴,⌽⊖⍉⍇⍈↑↓/⌿"}[count]
	if !strings.Contains(uses, sign) {
		return nil
	}
	kind, what := []string{"Alone", "Both"}[count-1], " C"+sign
	if strings.Contains(dyads+"~", sign) {
		kind, what = []string{"One", "Two"}[count-1], " F"+sign
	}
	return func(args []int) int { return m.add(kind, n.At, what, args) }
}

// folds tells what a node does that folds by its part.
func (m *model) folds(n api.Node, kind string, nums ...int64) func(args []int) int {
	f := m.dyad(n.Kids[0])
	if f == "" {
		return nil
	}
	return func(args []int) int { return m.add(kind, n.At, " F"+f, args, nums...) }
}

// value tells the place of a value's step; it throws where a function stands
// that has no such use.
func (m *model) value(i int) int {
	n := m.p.Nodes[i]
	var args []int
	f := 0
	switch n.Kind {
	case tree.Var:
		return 0
	case tree.Num:
		return m.add("Num", 0, "", []int{0}, n.Nums...)
	case tree.One:
		args, f = []int{m.value(n.Kids[1])}, n.Kids[0]
	case tree.Two:
		b := m.value(n.Kids[2])
		args, f = []int{m.value(n.Kids[0]), b}, n.Kids[1]
	}
	do := m.function(f, len(args))
	if do == nil {
		panic(m.p.Nodes[f].At)
	}
	return do(args)
}

// modelled is the steps that a flat program comes to, or its fault.
func modelled(p api.Prog) (l []string, fault api.Fault) {
	defer func() {
		if at := recover(); at != nil {
			l, fault = nil, api.Fault{E: api.ErrValence, At: at.(int)}
		}
	}()
	m := &model{p: p, steps: []string{"In@0 0 0"}}
	if last := m.value(p.Root); last != len(m.steps)-1 {
		panic("the last step isn't the value")
	}
	return m.steps, api.Fault{}
}

// check holds all that is told of a flat program against the model, and tells
// whether nothing is wrong with it.
func check(t *testing.T, p api.Prog) bool {
	t.Helper()
	want, fault := modelled(p)
	if fault.E != api.OK {
		fails(t, p, fault.E, fault.At)
	} else {
		comes(t, p, want[1:]...)
	}
	m := &model{p: p}
	for i, n := range p.Nodes {
		one, two := Uses(p, i)
		wantOne, wantTwo := m.function(i, 1) != nil, m.function(i, 2) != nil
		if one != wantOne || two != wantTwo {
			t.Fatalf("Uses(%v, %d): got %t, %t", p, i, one, two)
		}
		f, ok := Scalar(p, i)
		if got := strings.TrimSpace(functioned("", f)); got != m.dyad(i) || ok != (got != "") {
			t.Fatalf("Scalar(%v, %d) of the kind %d: got %v, %t", p, i, n.Kind, f, ok)
		}
	}
	return fault.E == api.OK
}

// part is a node with its parts.
type part struct {
	node  api.Node
	parts []part
}

// of tells a part with these parts.
func of(n api.Node, parts ...part) part { return part{n, parts} }

// lay lays a part's nodes behind others, and tells them, the last one being its
// own. Each stands at a byte of its own.
func lay(nodes []api.Node, all part) []api.Node {
	n := all.node
	n.Kids = nil
	for _, part := range all.parts {
		nodes = lay(nodes, part)
		n.Kids = append(n.Kids, len(nodes)-1)
	}
	n.At = 1000 - 3*len(nodes)
	return append(nodes, n)
}

// rooted tells the program that a value is.
func rooted(root part) api.Prog {
	nodes := lay(nil, root)
	return api.Prog{Name: "x", Nodes: nodes, Root: len(nodes) - 1}
}

// prims are some signs: of each pair of uses a scalar one and a mixed one.
func prims(t *testing.T) []part {
	t.Helper()
	var all []part
	for _, sign := range []string{"-", "⌈", "~", "⍴", "≢", "/"} {
		all = append(all, of(api.Node{Kind: tree.Prim, Code: code(t, sign)}))
	}
	return all
}

// grown tells all functions with up to most nodes, of these signs.
func grown(leaves []part, most int) [][]part {
	all := [][]part{nil, leaves}
	for size := 2; size <= most; size++ {
		var fs []part
		for _, g := range all[size-1] {
			for _, sign := range []int{glyph.Slash, glyph.Bar, glyph.Back, glyph.BackBar, glyph.Swap} {
				fs = append(fs, of(api.Node{Kind: tree.Op, Code: sign}, g))
			}
			fs = append(fs, of(api.Node{Kind: tree.Near, Nums: []int64{3, -1}}, g), of(api.Node{Kind: tree.Outer}, g))
		}
		for a := 1; a < size-1; a++ {
			for _, left := range all[a] {
				for _, right := range all[size-1-a] {
					fs = append(fs, of(api.Node{Kind: tree.Dot}, left, right), of(api.Node{Kind: tree.Atop}, left, right))
				}
			}
			for b := 1; b < size-1-a; b++ {
				for _, left := range all[a] {
					for _, mid := range all[b] {
						for _, right := range all[size-1-a-b] {
							fs = append(fs, of(api.Node{Kind: tree.Fork}, left, mid, right))
						}
					}
				}
			}
		}
		// A Num has one node, too.
		for b := 1; b < size-2; b++ {
			for _, mid := range all[b] {
				for _, right := range all[size-2-b] {
					fs = append(fs, of(api.Node{Kind: tree.Fork}, of(api.Node{Kind: tree.Num, Nums: []int64{5, 6}}), mid, right))
				}
			}
		}
		all = append(all, fs)
	}
	return all
}

// All small functions, done to one value and to two (P22.1 to P22.5).
func TestAllSmallFunctions(t *testing.T) {
	x := of(api.Node{Kind: tree.Var, Name: "x"})
	num := of(api.Node{Kind: tree.Num, Nums: []int64{2}})
	met := 0
	leaves := prims(t)
	for _, c := range []struct {
		leaves []part
		most   int
	}{{leaves, 4}, {leaves[:2], 5}} {
		for _, functions := range grown(c.leaves, c.most) {
			for _, f := range functions {
				for _, root := range []part{of(api.Node{Kind: tree.One}, f, x), of(api.Node{Kind: tree.Two}, num, f, x)} {
					if check(t, rooted(root)) {
						met++
					}
				}
			}
		}
	}
	if met < 1000 {
		t.Error("too few had nothing wrong:", met)
	}
}

// All small values, of few functions (P22.3 to P22.5).
func TestAllSmallValues(t *testing.T) {
	functions := []part{prims(t)[0], prims(t)[1], prims(t)[4]}
	functions = append(functions, of(api.Node{Kind: tree.Op, Code: glyph.Swap}, functions[0]))
	functions = append(functions, of(api.Node{Kind: tree.Fork}, of(api.Node{Kind: tree.Num, Nums: []int64{5, 6}}), functions[1], functions[0]))
	values := []part{of(api.Node{Kind: tree.Var, Name: "x"}), of(api.Node{Kind: tree.Num, Nums: []int64{7}})}
	for range 2 {
		more := slices.Clone(values)
		for _, f := range functions {
			for _, v := range values {
				more = append(more, of(api.Node{Kind: tree.One}, f, v))
				for _, w := range values {
					more = append(more, of(api.Node{Kind: tree.Two}, v, f, w))
				}
			}
		}
		values = more
	}
	met := 0
	for _, v := range values {
		if check(t, rooted(v)) {
			met++
		}
	}
	if met < 1000 || met == len(values) {
		t.Error("too few, or all, had nothing wrong:", met, len(values))
	}
}

// What programs of names come to, too (P22.3 to P22.5).
func TestProgramsWithNames(t *testing.T) {
	for _, text := range []string{
		"x:\nMean←2÷⍨2+⌿⊢\ny←Mean x\ny-Mean y",
		"x:3\nF←(+/÷≢)\nG←F⍨\nF x",
		"x:3\nF←1⍈⊢\nG←⊢-F\nG G x",
		"x:2 2\nF←+.×\nx F⍨⍉x",
		"x:\nF←⌈⍨\nG←∘.F\n(1 2 G 3 4)+x",
	} {
		p, fault := scope.Flat(read(t, text))
		if fault.E != api.OK || !check(t, p) {
			t.Errorf("%q: %v", text, fault)
		}
	}
}

// Functions that are nested as deep as there is room for are gone through
// (P22.2, P22.3).
func TestDeepFunctions(t *testing.T) {
	minus, x := prims(t)[0], of(api.Node{Kind: tree.Var, Name: "x"})
	swapped, atop, value := minus, minus, x
	for range api.MaxNodes - 3 {
		swapped = of(api.Node{Kind: tree.Op, Code: glyph.Swap}, swapped)
	}
	for range (api.MaxNodes - 3) / 2 {
		atop = of(api.Node{Kind: tree.Atop}, minus, atop)
		value = of(api.Node{Kind: tree.One}, minus, value)
	}
	for _, root := range []part{of(api.Node{Kind: tree.One}, swapped, x), of(api.Node{Kind: tree.One}, atop, x), of(api.Node{Kind: tree.Two}, x, minus, value)} {
		p := rooted(root)
		if len(p.Nodes) < api.MaxNodes-2 || !check(t, p) {
			t.Error("of so many nodes:", len(p.Nodes))
		}
	}
}
