package token

import (
	"strings"

	"riffle/api"
	"riffle/digits"
	"riffle/glyph"
)

// reader is a text, at which byte of it the rest begins that wasn't read yet,
// and the tokens ahead of that.
type reader struct {
	text string
	at   int
	toks []api.Tok
}

// fail throws what is wrong at the rest's first byte.
func (r *reader) fail(e api.Errno) {
	panic(api.Fault{E: e, At: r.at})
}

// rest tells what wasn't read yet.
func (r *reader) rest() string {
	return r.text[r.at:]
}

// all reads the whole text.
func (r *reader) all() {
	if len(r.text) > api.MaxText {
		r.at = api.MaxText
		r.fail(api.ErrMany)
	}
	for r.at < len(r.text) {
		read := r.picked()
		read(r)
	}
}

// picked tells what reads on, by how the rest begins, which isn't empty.
func (r *reader) picked() func(*reader) {
	rest := r.rest()
	switch first := rest[0]; {
	case first == ' ' || first == '\t':
		return (*reader).blank
	case first == '\n':
		return (*reader).newline
	case digit(first) || begins(rest, "¯", "_"):
		return (*reader).number
	case letter(first):
		return (*reader).name
	case begins(rest, "⍝", "#"):
		return (*reader).remark
	}
	return (*reader).sign
}

// begins tells whether a text begins with one of these signs.
func begins(s string, signs ...string) bool {
	for _, sign := range signs {
		if strings.HasPrefix(s, sign) {
			return true
		}
	}
	return false
}

// blank passes over a blank.
func (r *reader) blank() {
	r.at++
}

// remark passes over a remark, but not over the line's end.
func (r *reader) remark() {
	line, _, _ := strings.Cut(r.rest(), "\n")
	r.at += len(line)
}

// newline reads the end of a line.
func (r *reader) newline() {
	r.add(api.Tok{Kind: End}, 1)
}

// number reads a number, which joins the ones ahead of it, if the last token is
// a Num. Nothing but blanks stands between, then: a remark would have an End
// behind it, and all else is a token itself.
func (r *reader) number() {
	n, size, ok := digits.Read(r.rest())
	if !ok {
		r.fail(api.ErrNumber)
	}
	if len(r.toks) == 0 || r.last().Kind != Num {
		r.add(api.Tok{Kind: Num}, 0)
	}
	tok := r.last()
	if len(tok.Nums) == api.MaxSize {
		r.fail(api.ErrMany)
	}
	tok.Nums = append(tok.Nums, n)
	r.at += size
}

// last tells where the last token stands, of one or more.
func (r *reader) last() *api.Tok {
	return &r.toks[len(r.toks)-1]
}

// name reads a name.
func (r *reader) name() {
	name := r.rest()[:run(r.rest())]
	kind := Named(name)
	if kind == 0 {
		r.fail(api.ErrName)
	}
	r.add(api.Tok{Kind: kind, Name: name}, len(name))
}

// sign reads a sign, be it written as such or by its word.
func (r *reader) sign() {
	code, size := glyph.First(r.rest())
	switch code {
	case 0:
		r.fail(api.ErrSign)
	case glyph.Then:
		r.add(api.Tok{Kind: End}, size)
	default:
		r.add(api.Tok{Kind: Sign, Code: code}, size)
	}
}

// add lets a token come that begins with the rest, of which it has so many
// bytes. Who adds one looks first whether it may be: what is wrong with it is
// told ahead of its being one too many.
func (r *reader) add(tok api.Tok, size int) {
	if len(r.toks) == api.MaxTokens {
		r.fail(api.ErrMany)
	}
	tok.At = r.at
	r.toks = append(r.toks, tok)
	r.at += size
}
