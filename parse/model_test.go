package parse

import (
	"strconv"
	"strings"
	"testing"

	"riffle/api"
	"riffle/glyph"
	"riffle/token"
	"riffle/tree"
)

// model reads the tokens of one statement, by the chapter's words, as places in
// a list that stays whole. What it reads it tells as text.
type model struct {
	toks []api.Tok
	// f and v are whether a function, or a value, may end there.
	f, v []bool
	deep int
}

// newModel tells the model of a body.
func newModel(toks []api.Tok) *model {
	m := &model{toks: toks, f: make([]bool, len(toks)), v: make([]bool, len(toks))}
	for i, tok := range toks {
		ahead := i > 0 && m.f[i-1]
		numbers := i > 0 && toks[i-1].Code == glyph.Near
		switch {
		case tok.Kind == token.Func:
			m.f[i] = true
		case tok.Kind == token.Name:
			m.v[i] = true
		case tok.Kind == token.Num:
			m.f[i], m.v[i] = numbers, !numbers
		case tok.Code == glyph.Close:
			m.f[i], m.v[i] = ahead, !ahead
		default:
			m.f[i] = strings.Contains("+-×÷⌈⍴/⌿\\⍀⍨", glyph.Sign(tok.Code))
		}
	}
	return m
}

// refuse throws what is wrong at the token i.
func (m *model) refuse(e api.Errno, i int) {
	panic(api.Fault{E: e, At: m.toks[i].At})
}

// at tells the sign at i, if that is a sign.
func (m *model) at(i int) string {
	if i < 0 || m.toks[i].Kind != token.Sign {
		return ""
	}
	return glyph.Sign(m.toks[i].Code)
}

// leaf tells a node without parts, and the place ahead of it.
func (m *model) leaf(kind string, i int) (string, int) {
	tok := m.toks[i]
	return wrote(kind, tok.At, glyph.Sign(tok.Code)+tok.Name+row(tok.Nums)), i - 1
}

// stands tells where a node stands, as it was written.
func stands(node string) int {
	_, s, _ := strings.Cut(node, "@")
	n, _ := strconv.Atoi(s[:strings.IndexFunc(s+"!", func(r rune) bool { return r < '0' || r > '9' })])
	return n
}

// between reads from the Close at i on, down to the place ahead of its Open.
func (m *model) between(i int, read func(i int) (string, int)) (string, int) {
	if m.deep == 16 {
		m.refuse(api.ErrDepth, i)
	}
	if i == 0 {
		m.refuse(api.ErrSyntax, i)
	}
	m.deep++
	s, next := read(i - 1)
	m.deep--
	if m.at(next) != "(" {
		m.refuse(api.ErrSyntax, i)
	}
	return s, next - 1
}

func (m *model) operand(i int) (string, int) {
	switch {
	case m.toks[i].Kind == token.Name:
		return m.leaf("Var", i)
	case m.toks[i].Kind == token.Num && m.at(i-1) != "⌺":
		return m.leaf("Num", i)
	case m.at(i) == ")":
		return m.between(i, m.value)
	}
	m.refuse(api.ErrSyntax, i)
	return "", 0
}

func (m *model) value(i int) (string, int) {
	s, i := m.operand(i)
	for i >= 0 && m.at(i) != "(" {
		if !m.f[i] {
			m.refuse(api.ErrSyntax, i)
		}
		var f, left string
		f, i = m.function(i)
		if i >= 0 && m.v[i] {
			left, i = m.operand(i)
			s = wrote("Two", stands(f), "", left, f, s)
		} else {
			s = wrote("One", stands(f), "", f, s)
		}
	}
	return s, i
}

func (m *model) function(i int) (string, int) {
	// What is to be made of the function, from the right to the left.
	var makes []func(f string) string
	for {
		tok := m.toks[i]
		if sign := m.at(i); sign != "" && strings.Contains("/⌿\\⍀⍨", sign) && i > 0 && m.f[i-1] {
			makes = append(makes, func(f string) string { return wrote("Op", tok.At, sign, f) })
			i--
			continue
		}
		if tok.Kind == token.Num && m.at(i-1) == "⌺" {
			if len(tok.Nums) != 2 {
				m.refuse(api.ErrSyntax, i)
			}
			if i == 1 || !m.f[i-2] {
				m.refuse(api.ErrSyntax, i-1)
			}
			at := m.toks[i-1].At
			makes = append(makes, func(f string) string { return wrote("Near", at, row(tok.Nums), f) })
			i -= 2
			continue
		}
		break
	}
	s, i := m.primary(i)
	if m.at(i) == "." {
		dot := i
		if m.at(dot-1) == "∘" {
			s, i = wrote("Outer", m.toks[dot].At, "", s), dot-2
		} else if dot == 0 {
			m.refuse(api.ErrSyntax, dot)
		} else {
			var left string
			left, i = m.primary(dot - 1)
			s = wrote("Dot", m.toks[dot].At, "", left, s)
		}
	}
	for k := len(makes) - 1; k >= 0; k-- {
		s = makes[k](s)
	}
	return s, i
}

func (m *model) primary(i int) (string, int) {
	switch sign := m.at(i); {
	case m.toks[i].Kind == token.Func:
		return m.leaf("Known", i)
	case sign == ")":
		return m.between(i, m.train)
	case sign != "" && strings.Contains("+-×÷⌈⍴/⌿", sign):
		return m.leaf("Prim", i)
	}
	m.refuse(api.ErrSyntax, i)
	return "", 0
}

func (m *model) train(i int) (string, int) {
	var tines []string
	for i >= 0 && (m.at(i) != "(" || len(tines) == 0) {
		var s string
		nth := len(tines) + 1
		if nth >= 3 && nth%2 == 1 && m.toks[i].Kind == token.Num && m.at(i-1) != "⌺" {
			s, i = m.leaf("Num", i)
		} else {
			if !m.f[i] {
				m.refuse(api.ErrSyntax, i)
			}
			s, i = m.function(i)
		}
		tines = append(tines, s)
	}
	s := tines[0]
	for k := 1; k < len(tines); k += 2 {
		if k+1 < len(tines) {
			s = wrote("Fork", stands(tines[k]), "", tines[k+1], tines[k], s)
		} else {
			s = wrote("Atop", stands(tines[k]), "", tines[k], s)
		}
	}
	return s, i
}

// modelled is what a body is read as, written, or its fault.
func modelled(toks []api.Tok, train bool) (s string, fault api.Fault) {
	defer func() {
		if wrong := recover(); wrong != nil {
			s, fault = "", wrong.(api.Fault)
		}
	}()
	m := newModel(toks)
	read := m.value
	if train {
		read = m.train
	}
	s, next := read(len(toks) - 1)
	if next >= 0 {
		m.refuse(api.ErrSyntax, next)
	}
	return s, api.Fault{}
}

// bodies goes through all rows of 1 to most pieces, laid behind one another.
func bodies(pieces []string, most int, each func(body string)) {
	if most == 0 {
		return
	}
	for _, piece := range pieces {
		each(piece)
		bodies(pieces, most-1, func(rest string) { each(piece + rest) })
	}
}

// check tests that a body is read as the model reads it, as the expression, or
// as what a function is.
func check(t *testing.T, body string, train bool) {
	ahead, behind := "x:\n", ""
	if train {
		ahead, behind = "x:\nF←", "\n7"
	}
	text := ahead + body + behind
	toks, _ := token.Lex(ahead + body)
	from := 3
	if train {
		from = 5
	}
	want, fault := modelled(toks[from:], train)
	if !train && len(toks) > from+1 && toks[from+1].Code == glyph.Is {
		// No definition may stand last (P19.1).
		want, fault = "", api.Fault{E: api.ErrSyntax, At: toks[from].At}
	}
	p, got := Text(text)
	switch {
	case got != fault:
		t.Fatalf("Text(%q): the fault %v, want %v", text, got, fault)
	case fault.E != api.OK:
		if !zero(p) {
			t.Fatalf("Text(%q): %v beside a fault", text, p)
		}
		return
	case train:
		want = "x:\nF@3=" + want + "\nNum@" + strconv.Itoa(len(text)-1) + "=7"
	default:
		want = "x:\n" + want
	}
	if !tree.Right(p) || shown(p) != want {
		t.Fatalf("Text(%q):\ngot  %s\nwant %s", text, shown(p), want)
	}
	for _, n := range p.Nodes {
		if n.At < 0 || n.At >= len(text) {
			t.Fatalf("Text(%q): a node at %d", text, n.At)
		}
	}
}

// All short rows of tokens are read as the chapter says (P19.2 to P19.7).
func TestAllShortBodies(t *testing.T) {
	for _, c := range []struct {
		most   int
		pieces []string
	}{
		{5, []string{" x ", " F ", " 2 ", "+", "/", "⌺1 2", ".", "∘.", "(", ")"}},
		{5, []string{" 5 ", "+", "⌺", "⌺ 3 4 ", "⍨", "(", ")", " F"}},
		{4, []string{"x ", "+", "⌿", "\\", "⍀", ".", "∘", ":", "⌺1 2", "←"}},
		{6, []string{"x", "-", "(", ")", "/"}},
		{6, []string{"x", "(+", "(x", ")", "1 ", ".F"}},
	} {
		bodies(c.pieces, c.most, func(body string) {
			check(t, body, false)
			check(t, body, true)
		})
	}
}
