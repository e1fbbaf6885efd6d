package parse

import (
	"slices"

	"riffle/api"
	"riffle/glyph"
	"riffle/token"
	"riffle/tree"
)

// phrase is a node as it was read, and its parts, from the left to the right.
// Its Kids come later: a node's place hangs on what stands to the left of it,
// which is read last.
type phrase struct {
	node  api.Node
	parts []phrase
}

// made tells the phrase of a kind that stands at this byte, with its parts.
func made(kind, at int, parts ...phrase) phrase {
	return phrase{node: api.Node{Kind: kind, At: at}, parts: parts}
}

// alone tells the phrase of a kind that is a token by itself.
func alone(kind int, tok api.Tok) phrase {
	return phrase{node: api.Node{Kind: kind, At: tok.At, Code: tok.Code, Nums: tok.Nums, Name: tok.Name}}
}

// at tells where a phrase stands.
func (p phrase) at() int {
	return p.node.At
}

// reader is what wasn't read yet of a statement, up to the token that is read
// next, and how many levels that one stands within.
type reader struct {
	toks   []api.Tok
	levels int
}

// more tells whether there is a token ahead that isn't Open.
func (r *reader) more() bool {
	tok, ok := last(r.toks)
	return ok && !is(tok, glyph.Open)
}

// take reads a token, of one or more.
func (r *reader) take() api.Tok {
	tok, _ := last(r.toks)
	r.toks = r.toks[:len(r.toks)-1]
	return tok
}

// sees tells whether the token ahead is this sign.
func (r *reader) sees(code int) bool {
	tok, ok := last(r.toks)
	return ok && is(tok, code)
}

// all reads a phrase, to which all that there is must belong.
func (r *reader) all(read func() phrase) phrase {
	whole := read()
	if tok, ok := last(r.toks); ok {
		fail(api.ErrSyntax, tok.At)
	}
	return whole
}

// within reads a phrase that stands ahead of a Close, and its Open (P19.6).
func (r *reader) within(closing api.Tok, read func() phrase) phrase {
	if r.levels == api.MaxDepth {
		fail(api.ErrDepth, closing.At)
	}
	if len(r.toks) == 0 {
		fail(api.ErrSyntax, closing.At)
	}
	r.levels++
	inner := read()
	r.levels--
	if !r.sees(glyph.Open) {
		fail(api.ErrSyntax, closing.At)
	}
	r.take()
	return inner
}

// value reads a value (P19.3).
func (r *reader) value() phrase {
	whole := r.operand()
	for r.more() {
		f := r.function()
		if endsValue(r.toks) {
			whole = made(tree.Two, f.at(), r.operand(), f, whole)
		} else {
			whole = made(tree.One, f.at(), f, whole)
		}
	}
	return whole
}

// operand reads an operand (P19.3).
func (r *reader) operand() phrase {
	tok := r.take()
	switch {
	case tok.Kind == token.Num && !r.sees(glyph.Near):
		return alone(tree.Num, tok)
	case tok.Kind == token.Name:
		return alone(tree.Var, tok)
	case !is(tok, glyph.Close):
		fail(api.ErrSyntax, tok.At)
	}
	return r.within(tok, r.value)
}

// function reads a function, from a token on with which one may end (P19.4).
func (r *reader) function() phrase {
	// Asked here, for a value and for each tine: behind a Close all that stands
	// within would be met ahead of it.
	if tok, _ := last(r.toks); !endsFunction(r.toks) {
		fail(api.ErrSyntax, tok.At)
	}
	operators := r.operators()
	whole := r.joined()
	for _, by := range slices.Backward(operators) {
		by.parts = []phrase{whole}
		whole = by
	}
	return whole
}

// operators reads what stands behind the function that it changes, which isn't
// part of it yet, from the right to the left (P19.4).
func (r *reader) operators() []phrase {
	var met []phrase
	for {
		tok, _ := last(r.toks)
		ahead := r.toks[:len(r.toks)-1]
		switch {
		case changes(tok) && endsFunction(ahead):
			met = append(met, alone(tree.Op, r.take()))
		case windowed(r.toks):
			met = append(met, r.near())
		default:
			return met
		}
	}
}

// near reads a Num behind a Near, without the function that it changes.
func (r *reader) near() phrase {
	nums, sign := r.take(), r.take()
	if len(nums.Nums) != 2 {
		fail(api.ErrSyntax, nums.At)
	}
	if !endsFunction(r.toks) {
		fail(api.ErrSyntax, sign.At)
	}
	by := alone(tree.Near, nums)
	by.node.At = sign.At
	return by
}

// joined reads a primary, and what the sign Dot makes of it, if that stands
// ahead (P19.4).
func (r *reader) joined() phrase {
	right := r.primary()
	if !r.sees(glyph.Dot) {
		return right
	}
	dot := r.take()
	if r.sees(glyph.Jot) {
		r.take()
		return made(tree.Outer, dot.At, right)
	}
	if len(r.toks) == 0 {
		fail(api.ErrSyntax, dot.At)
	}
	return made(tree.Dot, dot.At, r.primary(), right)
}

// primary reads a primary (P19.4).
func (r *reader) primary() phrase {
	tok := r.take()
	switch {
	case tok.Kind == token.Func:
		return alone(tree.Known, tok)
	case bare(tok):
		return alone(tree.Prim, tok)
	case !is(tok, glyph.Close):
		fail(api.ErrSyntax, tok.At)
	}
	return r.within(tok, r.train)
}

// train reads a train (P19.5).
func (r *reader) train() phrase {
	whole := r.function()
	for r.more() {
		g := r.function()
		if !r.more() {
			return made(tree.Atop, g.at(), g, whole)
		}
		whole = made(tree.Fork, g.at(), r.tine(), g, whole)
	}
	return whole
}

// tine reads a tine that may be a Num, too (P19.5).
func (r *reader) tine() phrase {
	if tok, _ := last(r.toks); tok.Kind == token.Num && !windowed(r.toks) {
		return alone(tree.Num, r.take())
	}
	return r.function()
}
