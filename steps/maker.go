package steps

import (
	"slices"

	"riffle/api"
	"riffle/glyph"
	"riffle/tree"
)

// maker is the steps so far of a flat program, and what is wrong first, if
// something is: the steps behind that are of no account.
type maker struct {
	nodes nodes
	steps []api.Step
	fault api.Fault
}

// arguments are the places of the steps to which a function is done: b alone,
// a being 0, or both.
type arguments struct {
	a, b int
	two  bool
}

// swapped tells the arguments, changed; of b alone b and b.
func (to arguments) swapped() arguments {
	if !to.two {
		return arguments{a: to.b, b: to.b, two: true}
	}
	return arguments{a: to.b, b: to.a, two: true}
}

// fits tells whether there is a use with so many arguments.
func (to arguments) fits(u uses) bool {
	if to.two {
		return u.two
	}
	return u.one
}

// add lets a step come, and tells its place.
func (m *maker) add(s api.Step) int {
	m.steps = append(m.steps, s)
	return len(m.steps) - 1
}

// value goes through a value, and tells the place of its step (P22.3). That of
// a Var is the first one.
func (m *maker) value(i int) int {
	n := m.nodes[i]
	switch n.Kind {
	case tree.Num:
		return m.num(n)
	case tree.One:
		return m.use(n.Kids[0], arguments{b: m.value(n.Kids[1])})
	case tree.Two:
		b := m.value(n.Kids[2])
		a := m.value(n.Kids[0])
		return m.use(n.Kids[1], arguments{a: a, b: b, two: true})
	}
	return 0
}

// num adds the step of a Num.
func (m *maker) num(n api.Node) int {
	return m.add(api.Step{Kind: Num, Nums: slices.Clone(n.Nums)})
}

// use does a function, if it has such a use.
func (m *maker) use(i int, to arguments) int {
	if to.fits(m.nodes.uses(i)) {
		return m.do(i, to)
	}
	if m.fault.E == api.OK {
		m.fault = api.Fault{E: api.ErrValence, At: m.nodes[i].At}
	}
	return 0
}

// do does a function that has such a use, and tells the place of the step in
// which that ends (P22.4).
func (m *maker) do(i int, to arguments) int {
	n := m.nodes[i]
	does := picked(n.Kind)
	return does(m, n, to)
}

// picked tells what does a function of a kind.
func picked(kind int) func(*maker, api.Node, arguments) int {
	switch kind {
	case tree.Prim:
		return (*maker).prim
	case tree.Op:
		return (*maker).op
	case tree.Near:
		return (*maker).near
	case tree.Dot:
		return (*maker).dot
	case tree.Outer:
		return (*maker).outer
	case tree.Fork:
		return (*maker).fork
	}
	return (*maker).atop
}

// stands tells a step of a kind that stands at a function's node.
func stands(kind int, n api.Node, to arguments) api.Step {
	return api.Step{Kind: kind, A: to.a, B: to.b, At: n.At}
}

// scalar tells a part of a node, which is a scalar function.
func (m *maker) scalar(n api.Node, part int) api.Fn {
	f, _ := m.nodes.scalar(n.Kids[part])
	return f
}

// prim does a sign.
func (m *maker) prim(n api.Node, to arguments) int {
	one, two := Alone, Both
	scalar := glyph.Class(n.Code) == glyph.Scalar
	if scalar {
		one, two = One, Two
	}
	s := stands(one, n, to)
	if to.two {
		s.Kind = two
	}
	if scalar {
		s.F.Code = n.Code
	} else {
		s.Code = n.Code
	}
	return m.add(s)
}

// op does an Op.
func (m *maker) op(n api.Node, to arguments) int {
	if n.Code == glyph.Swap {
		return m.do(n.Kids[0], to.swapped())
	}
	s := stands(folding(n.Code, to.two), n, to)
	s.F = m.scalar(n, 0)
	return m.add(s)
}

// folding tells the kind of step that an Op's sign makes, of one argument or of
// two.
func folding(code int, two bool) int {
	switch {
	case code == glyph.Slash:
		return Reduce
	case code == glyph.Back:
		return Scan
	case code == glyph.BackBar:
		return Run
	case two:
		return Wide
	}
	return Down
}

// near does a Near.
func (m *maker) near(n api.Node, to arguments) int {
	s := stands(Near, n, to)
	s.F = m.scalar(n, 0)
	s.Nums = slices.Clone(n.Nums)
	return m.add(s)
}

// dot does a Dot.
func (m *maker) dot(n api.Node, to arguments) int {
	s := stands(Inner, n, to)
	s.F, s.G = m.scalar(n, 0), m.scalar(n, 1)
	return m.add(s)
}

// outer does an Outer.
func (m *maker) outer(n api.Node, to arguments) int {
	s := stands(Outer, n, to)
	s.G = m.scalar(n, 0)
	return m.add(s)
}

// fork does a Fork.
func (m *maker) fork(n api.Node, to arguments) int {
	right := m.do(n.Kids[2], to)
	left := m.tine(n.Kids[0], to)
	return m.do(n.Kids[1], arguments{a: left, b: right, two: true})
}

// tine does the first part of a Fork, which may be a Num.
func (m *maker) tine(i int, to arguments) int {
	if n := m.nodes[i]; n.Kind == tree.Num {
		return m.num(n)
	}
	return m.do(i, to)
}

// atop does an Atop.
func (m *maker) atop(n api.Node, to arguments) int {
	return m.do(n.Kids[0], arguments{b: m.do(n.Kids[1], to)})
}
