package steps

import (
	"riffle/api"
	"riffle/glyph"
	"riffle/scalar"
	"riffle/tree"
)

// nodes are those of a flat program.
type nodes []api.Node

// scalar tells the scalar function that a node is, if it is one that has a use
// with two arguments.
func (l nodes) scalar(i int) (api.Fn, bool) {
	n := l[i]
	switch {
	case n.Kind == tree.Prim && scalar.Has(n.Code, 2):
		return api.Fn{Code: n.Code}, true
	case n.Kind == tree.Op && n.Code == glyph.Swap:
		f, ok := l.scalar(n.Kids[0])
		return api.Fn{Code: f.Code, Swap: ok && !f.Swap}, ok
	}
	return api.Fn{}, false
}

// scalars tells whether all these nodes are such scalar functions.
func (l nodes) scalars(places []int) bool {
	for _, i := range places {
		if _, ok := l.scalar(i); !ok {
			return false
		}
	}
	return true
}

// uses are whether there is one with one argument, and whether there is one
// with two.
type uses struct {
	one, two bool
}

// both tells the uses that both have.
func (u uses) both(v uses) uses {
	return uses{u.one && v.one, u.two && v.two}
}

// given tells the uses that are left, if it is so.
func (u uses) given(so bool) uses {
	return u.both(uses{so, so})
}

// uses tells those of a node: of one that is no function there are none.
func (l nodes) uses(i int) uses {
	n := l[i]
	switch n.Kind {
	case tree.Prim:
		return usesOfPrim(n.Code)
	case tree.Op:
		return l.usesOfOp(n)
	case tree.Near:
		return uses{one: l.scalars(n.Kids)}
	case tree.Dot, tree.Outer:
		return uses{two: l.scalars(n.Kids)}
	case tree.Fork:
		return l.usesOfFork(n)
	case tree.Atop:
		return l.uses(n.Kids[1]).given(l.uses(n.Kids[0]).one)
	}
	return uses{}
}

// usesOfPrim tells those of a sign.
func usesOfPrim(code int) uses {
	switch code {
	case glyph.Shape, glyph.Join, glyph.Flip, glyph.Roll, glyph.Turn, glyph.Prev, glyph.Next:
		return uses{one: true, two: true}
	case glyph.Count, glyph.Tally:
		return uses{one: true}
	case glyph.Take, glyph.Drop, glyph.Slash, glyph.Bar:
		return uses{two: true}
	}
	return uses{one: scalar.Has(code, 1), two: scalar.Has(code, 2)}
}

// usesOfOp tells those of an Op.
func (l nodes) usesOfOp(n api.Node) uses {
	folds := l.scalars(n.Kids)
	switch n.Code {
	case glyph.Swap:
		two := l.uses(n.Kids[0]).two
		return uses{one: two, two: two}
	case glyph.Bar:
		return uses{one: folds, two: folds}
	}
	return uses{one: folds}
}

// usesOfFork tells those of a Fork.
func (l nodes) usesOfFork(n api.Node) uses {
	u := l.uses(n.Kids[2]).given(l.uses(n.Kids[1]).two)
	if first := n.Kids[0]; l[first].Kind != tree.Num {
		u = u.both(l.uses(first))
	}
	return u
}
