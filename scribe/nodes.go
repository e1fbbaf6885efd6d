package scribe

import (
	"riffle/api"
	"riffle/glyph"
	"riffle/tree"
)

// value writes a value (P20.3).
func (w *writer) value(n api.Node) {
	write := w.two
	switch n.Kind {
	case tree.Num:
		write = w.numbers
	case tree.Var:
		write = w.name
	case tree.One:
		write = w.one
	}
	write(n)
}

// numbers writes a Num.
func (w *writer) numbers(n api.Node) {
	w.row(n.Nums)
}

// name writes a Var or a Known.
func (w *writer) name(n api.Node) {
	w.put(n.Name)
}

// one writes a One.
func (w *writer) one(n api.Node) {
	w.function(w.part(n, 0))
	w.value(w.part(n, 1))
}

// two writes a Two.
func (w *writer) two(n api.Node) {
	w.operand(w.part(n, 0))
	// A Slash or a Bar stands behind a value here, so that it isn't read as an
	// operator, and needs no parentheses.
	f := w.part(n, 1)
	write := w.function
	if f.Kind == tree.Prim {
		write = w.sign
	}
	write(f)
	w.value(w.part(n, 2))
}

// operand writes a value as an operand (P20.3).
func (w *writer) operand(n api.Node) {
	if n.Kind == tree.Num || n.Kind == tree.Var {
		w.value(n)
	} else {
		w.within(w.value, n)
	}
}

// sign writes a node's sign.
func (w *writer) sign(n api.Node) {
	w.put(glyph.Sign(n.Code))
}

// function writes a function (P20.4).
func (w *writer) function(n api.Node) {
	write := w.group
	switch n.Kind {
	case tree.Prim:
		write = w.prim
	case tree.Known:
		write = w.name
	case tree.Op:
		write = w.op
	case tree.Near:
		write = w.near
	case tree.Dot:
		write = w.dot
	case tree.Outer:
		write = w.outer
	}
	write(n)
}

// prim writes a Prim that may stand behind a function.
func (w *writer) prim(n api.Node) {
	if n.Code == glyph.Slash || n.Code == glyph.Bar {
		w.within(w.sign, n)
	} else {
		w.sign(n)
	}
}

// op writes an Op.
func (w *writer) op(n api.Node) {
	w.function(w.part(n, 0))
	w.sign(n)
}

// near writes a Near.
func (w *writer) near(n api.Node) {
	w.within(w.window, n)
}

// window writes what stands between a Near's parentheses.
func (w *writer) window(n api.Node) {
	w.function(w.part(n, 0))
	w.put(glyph.Sign(glyph.Near))
	w.row(n.Nums)
}

// dot writes a Dot.
func (w *writer) dot(n api.Node) {
	w.primary(w.part(n, 0))
	w.put(glyph.Sign(glyph.Dot))
	w.primary(w.part(n, 1))
}

// outer writes an Outer.
func (w *writer) outer(n api.Node) {
	w.put(glyph.Sign(glyph.Jot), glyph.Sign(glyph.Dot))
	w.primary(w.part(n, 0))
}

// primary writes a function as a primary (P20.4).
func (w *writer) primary(n api.Node) {
	switch n.Kind {
	case tree.Op, tree.Dot, tree.Outer:
		w.within(w.function, n)
	default:
		w.function(n)
	}
}

// group writes a Fork or an Atop.
func (w *writer) group(n api.Node) {
	w.within(w.train, n)
}

// train writes a function as a train (P20.5).
func (w *writer) train(n api.Node) {
	switch n.Kind {
	case tree.Fork:
		w.tine(w.part(n, 0))
		w.function(w.part(n, 1))
		w.rest(w.part(n, 2))
	case tree.Atop:
		w.function(w.part(n, 0))
		w.rest(w.part(n, 1))
	default:
		w.function(n)
	}
}

// tine writes the first part of a Fork.
func (w *writer) tine(n api.Node) {
	if n.Kind == tree.Num {
		w.numbers(n)
	} else {
		w.function(n)
	}
}

// rest writes the last part of a Fork or an Atop: a Fork there goes on with the
// train, while an Atop would be read as part of what stands ahead of it.
func (w *writer) rest(n api.Node) {
	if n.Kind == tree.Fork {
		w.train(n)
	} else {
		w.function(n)
	}
}
