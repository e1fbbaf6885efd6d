package tree

import (
	"slices"

	"riffle/api"
	"riffle/glyph"
	"riffle/shape"
	"riffle/token"
)

// Right tells whether a program may be (P18.2).
func Right(p api.Prog) bool {
	if token.Named(p.Name) != token.Name || !shape.Right(p.Dims) {
		return false
	}
	if len(p.Nodes) == 0 || len(p.Nodes) > api.MaxNodes {
		return false
	}
	tops, ok := ordered(p.Nodes)
	return ok && meant(p, tops)
}

// ordered tells whether all nodes may be, each with its parts, and theirs,
// right ahead of it; and the places of those that are no part, in order.
func ordered(nodes []api.Node) ([]int, bool) {
	var tops []int
	for i, n := range nodes {
		// A node takes what stands ahead of it as its parts, so that each is
		// part of no more than one.
		left := len(tops) - len(n.Kids)
		if left < 0 || !slices.Equal(tops[left:], n.Kids) {
			return nil, false
		}
		if !parted(nodes, n) || !fielded(n) {
			return nil, false
		}
		tops = append(tops[:left], i)
	}
	return tops, true
}

// parts tells, of each part that a node of a kind has, which kinds it may be.
func parts(kind int) []func(kind int) bool {
	switch kind {
	case One:
		return []func(int) bool{Function, Value}
	case Two:
		return []func(int) bool{Value, Function, Value}
	case Op, Near, Outer:
		return []func(int) bool{Function}
	case Dot, Atop:
		return []func(int) bool{Function, Function}
	case Fork:
		return []func(int) bool{tine, Function, Function}
	}
	return nil
}

// tine tells whether a Fork's first part may be of a kind.
func tine(kind int) bool {
	return Function(kind) || kind == Num
}

// parted tells whether a node has as many parts as it is to have, of the kinds
// that these may be. All its parts are nodes.
func parted(nodes []api.Node, n api.Node) bool {
	return slices.EqualFunc(parts(n.Kind), n.Kids, func(may func(kind int) bool, kid int) bool {
		return may(nodes[kid].Kind)
	})
}

// fielded tells whether a node is of a kind, and has just the fields of that,
// beside its parts. The fields of its kind are looked at and laid aside; then
// nothing may be left.
func fielded(n api.Node) bool {
	may := Value(n.Kind) || Function(n.Kind)
	switch n.Kind {
	case Num:
		may = len(n.Nums) >= 1 && len(n.Nums) <= api.MaxSize
		n.Nums = nil
	case Var:
		may = token.Named(n.Name) == token.Name
		n.Name = ""
	case Prim:
		may = primitive(n.Code)
		n.Code = 0
	case Known:
		may = token.Named(n.Name) == token.Func
		n.Name = ""
	case Op:
		may = operator(n.Code)
		n.Code = 0
	case Near:
		may = len(n.Nums) == 2
		n.Nums = nil
	}
	return may && n.Code == 0 && n.Name == "" && len(n.Nums) == 0
}

// primitive tells whether a sign is a function by itself.
func primitive(code int) bool {
	switch glyph.Class(code) {
	case glyph.Scalar, glyph.Mixed:
		return true
	}
	return code == glyph.Slash || code == glyph.Bar
}

// operator tells whether a sign stands behind the function that it changes.
func operator(code int) bool {
	switch code {
	case glyph.Slash, glyph.Bar, glyph.Back, glyph.BackBar, glyph.Swap:
		return true
	}
	return false
}

// meant tells whether those nodes that are no part are just what the
// definitions mean, in order, and then the root.
func meant(p api.Prog, tops []int) bool {
	last := len(tops) - 1
	if len(p.Defs) != last || p.Root != tops[last] || !Value(p.Nodes[p.Root].Kind) {
		return false
	}
	for i, d := range p.Defs {
		if d.Node != tops[i] || !fits(d.Name, p.Nodes[d.Node].Kind) {
			return false
		}
	}
	return true
}

// fits tells whether a name may be that of a node of a kind.
func fits(name string, kind int) bool {
	switch token.Named(name) {
	case token.Name:
		return Value(kind)
	case token.Func:
		return Function(kind)
	}
	return false
}
