package parse

import (
	"riffle/api"
	"riffle/glyph"
	"riffle/token"
)

// is tells whether a token is this sign.
func is(tok api.Tok, code int) bool {
	return tok.Kind == token.Sign && tok.Code == code
}

// last tells the last one of tokens, if there is one.
func last(toks []api.Tok) (api.Tok, bool) {
	if len(toks) == 0 {
		return api.Tok{}, false
	}
	return toks[len(toks)-1], true
}

// bare tells whether a token is a sign that may be a function by itself.
func bare(tok api.Tok) bool {
	switch glyph.Class(tok.Code) {
	case glyph.Scalar, glyph.Mixed:
		return true
	}
	return is(tok, glyph.Slash) || is(tok, glyph.Bar)
}

// changes tells whether a token is a sign that makes an Op of a function.
func changes(tok api.Tok) bool {
	switch tok.Code {
	case glyph.Slash, glyph.Bar, glyph.Back, glyph.BackBar, glyph.Swap:
		return true
	}
	return false
}

// windowed tells whether the last one of tokens is a Num behind the sign Near.
func windowed(toks []api.Tok) bool {
	n := len(toks)
	return n > 1 && toks[n-1].Kind == token.Num && is(toks[n-2], glyph.Near)
}

// endsFunction tells whether a function may end with the last one of tokens
// (P19.2).
func endsFunction(toks []api.Tok) bool {
	tok, ok := last(toks)
	// Whether one may end with a Close is asked of what stands ahead of it.
	for ok && is(tok, glyph.Close) {
		toks = toks[:len(toks)-1]
		tok, ok = last(toks)
	}
	return ok && (tok.Kind == token.Func || bare(tok) || changes(tok) || windowed(toks))
}

// endsValue tells whether a value may end with the last one of tokens (P19.2).
func endsValue(toks []api.Tok) bool {
	tok, ok := last(toks)
	switch {
	case !ok:
		return false
	case tok.Kind == token.Num:
		return !windowed(toks)
	case is(tok, glyph.Close):
		return !endsFunction(toks)
	}
	return tok.Kind == token.Name
}
