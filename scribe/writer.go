package scribe

import (
	"strings"

	"riffle/api"
	"riffle/digits"
	"riffle/glyph"
)

// writer is the text so far of a program with these nodes, how many tokens it
// has, how many parentheses its end stands within, and how many any of it did.
type writer struct {
	nodes         []api.Node
	text          []byte
	tokens        int
	deep, deepest int
}

// part tells one of a node's parts.
func (w *writer) part(n api.Node, i int) api.Node {
	return w.nodes[n.Kids[i]]
}

// put writes pieces, none of them empty, each of which is a token.
func (w *writer) put(pieces ...string) {
	for _, piece := range pieces {
		end := len(w.text) - 1
		if end >= 0 && plain(w.text[end]) && plain(piece[0]) {
			w.text = append(w.text, ' ')
		}
		w.text = append(w.text, piece...)
		w.tokens++
	}
}

// plain tells whether a byte is a letter or a digit.
func plain(b byte) bool {
	return b >= 'a' && b <= 'z' || b >= 'A' && b <= 'Z' || b >= '0' && b <= '9'
}

// row writes numbers, which are one token together.
func (w *writer) row(nums []int64) {
	words := make([]string, len(nums))
	for i, n := range nums {
		words[i] = digits.High(n)
	}
	w.put(strings.Join(words, " "))
}

// within writes a node between parentheses.
func (w *writer) within(write func(n api.Node), n api.Node) {
	w.put(glyph.Sign(glyph.Open))
	w.deep++
	w.deepest = max(w.deepest, w.deep)
	write(n)
	w.deep--
	w.put(glyph.Sign(glyph.Close))
}
