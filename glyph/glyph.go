// Package glyph is layer 2: see shared/doc/02-glyph.md.
package glyph

import "unicode/utf8"

// The classes of signs.
const Scalar, Mixed, Operator, Mark = 1, 2, 3, 4

// grave begins a sign that is written by its word.
const grave = 96

// The codes of signs.
const (
	Plus = iota + 1
	Minus
	Times
	Over
	Power
	Rest
	Max
	Min
	Equal
	Unlike
	Less
	AtMost
	More
	AtLeast
	And
	Or
	Left
	Right
	Not
	Shape
	Join
	Flip
	Roll
	Turn
	Take
	Drop
	Count
	Tally
	Prev
	Next
	Slash
	Bar
	Back
	BackBar
	Near
	Dot
	Jot
	Swap
	Open
	Close
	Is
	Colon
	Then
)

// entry is a sign, and its word, if it has one.
type entry struct {
	sign rune
	word string
}

// table has each code's sign at the place of the code, so that the one at 0
// is none.
func table() [Then + 1]entry {
	return [Then + 1]entry{
		Plus:    {'+', ""},
		Minus:   {'-', ""},
		Times:   {'×', "mul"},
		Over:    {'÷', "div"},
		Power:   {'⋆', "pow"},
		Rest:    {'|', ""},
		Max:     {'⌈', "max"},
		Min:     {'⌊', "min"},
		Equal:   {'=', ""},
		Unlike:  {'≠', "ne"},
		Less:    {'<', ""},
		AtMost:  {'≤', "le"},
		More:    {'>', ""},
		AtLeast: {'≥', "ge"},
		And:     {'∧', "and"},
		Or:      {'∨', "or"},
		Left:    {'⊣', "left"},
		Right:   {'⊢', "right"},
		Not:     {'~', ""},
		Shape:   {'⍴', "rho"},
		Join:    {',', ""},
		Flip:    {'⌽', "rev"},
		Roll:    {'⊖', "flip"},
		Turn:    {'⍉', "turn"},
		Take:    {'↑', "take"},
		Drop:    {'↓', "drop"},
		Count:   {'⍳', "iota"},
		Tally:   {'≢', "tally"},
		Prev:    {'⍇', "prev"},
		Next:    {'⍈', "next"},
		Slash:   {'/', ""},
		Bar:     {'⌿', "down"},
		Back:    {'\\', ""},
		BackBar: {'⍀', "run"},
		Near:    {'⌺', "near"},
		Dot:     {'.', ""},
		Jot:     {'∘', "jot"},
		Swap:    {'⍨', "swap"},
		Open:    {'(', ""},
		Close:   {')', ""},
		Is:      {'←', "is"},
		Colon:   {':', ""},
		Then:    {'⋄', "then"},
	}
}

// lookUp tells a code's sign, the zero value of a code that there isn't.
func lookUp(code int) entry {
	if code < Plus || code > Then {
		return entry{}
	}
	return table()[code]
}

// find tells the first code whose entry fits, 0 if none does.
func find(fits func(e entry) bool) int {
	found := 0
search:
	for code, e := range table() {
		switch {
		case code < Plus:
			// The zero entry would fit a text that begins with a byte 0.
			continue search
		case fits(e):
			found = code
			break search
		}
	}
	return found
}

// Sign tells a code's sign (P2.1).
func Sign(code int) string {
	e := lookUp(code)
	if e.sign == 0 {
		return ""
	}
	return string(e.sign)
}

// Word tells the word of a code's sign (P2.1).
func Word(code int) string {
	return lookUp(code).word
}

// Class tells the class of a code's sign (P2.1).
func Class(code int) int {
	switch {
	case code < Plus || code > Then:
		return 0
	case code <= Not:
		return Scalar
	case code <= Next:
		return Mixed
	case code <= Swap:
		return Operator
	}
	return Mark
}

// Of tells the code of the sign that the text is (P2.1).
func Of(sign string) (int, bool) {
	code, size := leading(sign)
	if code == 0 || size != len(sign) {
		return 0, false
	}
	return code, true
}

// leading tells the code of the sign, written as such, with which a text
// begins, and how many bytes that has.
func leading(text string) (int, int) {
	first, size := utf8.DecodeRuneInString(text)
	code := find(func(e entry) bool { return e.sign == first })
	if code == 0 {
		return 0, 0
	}
	return code, size
}

// Named tells the code with that word (P2.1).
func Named(word string) (int, bool) {
	if word == "" {
		return 0, false
	}
	code := find(func(e entry) bool { return e.word == word })
	return code, code != 0
}

// First tells the code of the sign with which a text begins, be it written as
// such or by its word, and how many bytes that has (P2.2).
func First(text string) (int, int) {
	if text == "" || text[0] != grave {
		return leading(text)
	}
	end := 1
	for end < len(text) && text[end] >= 'a' && text[end] <= 'z' {
		end++
	}
	code, ok := Named(text[1:end])
	if !ok {
		return 0, 0
	}
	return code, end
}
