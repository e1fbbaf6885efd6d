package window

import (
	"math"
	"slices"
	"testing"

	"riffle/api"
	"riffle/fold"
	"riffle/glyph"
)

const least, greatest = math.MinInt64, math.MaxInt64

// ways are the codes that a window may have, by the way in which it is reckoned.
func ways() map[int][]int {
	return map[int][]int{
		Deque: {glyph.Max, glyph.Min},
		Twin:  {glyph.Plus, glyph.Times, glyph.And, glyph.Or, glyph.Left, glyph.Right},
		Past: {glyph.Minus, glyph.Over, glyph.Power, glyph.Rest, glyph.Equal, glyph.Unlike,
			glyph.Less, glyph.AtMost, glyph.More, glyph.AtLeast},
	}
}

// without are codes that have no use with two arguments.
func without() []int {
	codes := []int{glyph.Not, 0, -1, -glyph.Max, glyph.Then + 1, 99, 1 << 32, 1<<32 + 1, math.MaxInt, math.MinInt}
	for code := glyph.Shape; code <= glyph.Then; code++ {
		codes = append(codes, code)
	}
	return codes
}

// functions are all that a window may have, Swap or not.
func functions() []api.Fn {
	var l []api.Fn
	for code := glyph.Plus; code < glyph.Not; code++ {
		l = append(l, api.Fn{Code: code}, api.Fn{Code: code, Swap: true})
	}
	return l
}

// few are functions of each way, of which some mind the order.
func few() []api.Fn {
	return []api.Fn{
		{Code: glyph.Minus}, {Code: glyph.Rest, Swap: true},
		{Code: glyph.Plus}, {Code: glyph.Left}, {Code: glyph.Left, Swap: true},
		{Code: glyph.Max}, {Code: glyph.Min, Swap: true},
	}
}

// fresh tells a window that may be, and what it is to be.
func fresh(t *testing.T, f api.Fn, back, look, width int) (*Window, *model) {
	t.Helper()
	w, e := New(f, back, look, width)
	if w == nil || e != api.OK {
		t.Fatalf("New(%v, %d, %d, %d): got %v, %d", f, back, look, width, w, e)
	}
	return w, &model{f: f, back: back, look: look, width: width}
}

// model is what a window is to be: all rows that came, and how many answers
// were told.
type model struct {
	f                 api.Fn
	back, look, width int
	rows              [][]int64
	told              int
	over              bool
}

// clone tells a model by itself.
func (m *model) clone() *model {
	c := *m
	c.rows = slices.Clone(m.rows)
	return &c
}

// numsAt tells the numbers of rows at a place.
func numsAt(rows [][]int64, place int) []int64 {
	var l []int64
	for _, row := range rows {
		l = append(l, row[place])
	}
	return l
}

// answer follows the chapter's words: the answer to a row is of the rows around
// it, as far as there are some.
func (m *model) answer(e int) []int64 {
	around := m.rows[max(e-m.back, 0):min(e+m.look+1, len(m.rows))]
	l := []int64{}
	for place := range m.width {
		n, ok := fold.Row(m.f, numsAt(around, place))
		if !ok {
			panic("there is no answer")
		}
		l = append(l, n)
	}
	return l
}

// push tells the answer that is told when a row comes, if there is one.
func (m *model) push(row []int64) ([]int64, bool) {
	m.rows = append(slices.Clone(m.rows), slices.Clone(row))
	if m.told+m.look >= len(m.rows) {
		return nil, false
	}
	m.told++
	return m.answer(m.told - 1), true
}

// drain tells the next answer, if there is one, where no more rows come.
func (m *model) drain() ([]int64, bool) {
	m.over = true
	if m.told == len(m.rows) {
		return nil, false
	}
	m.told++
	return m.answer(m.told - 1), true
}

// words follows the chapter's words of what is held.
func (m *model) words() int {
	held := m.rows
	if m.told > 0 {
		held = m.rows[max(m.told-1-m.back, 0):]
	}
	words := 0
	for place := range m.width {
		switch l := numsAt(held, place); {
		case slices.Contains(ways()[Past], m.f.Code):
			words += len(l)
		case slices.Contains(ways()[Twin], m.f.Code):
			words += 2 * len(l)
		default:
			words += 2 * kept(m.f.Code, l)
		}
	}
	return words
}

// kept tells how many numbers there are that none behind them beats.
func kept(code int, l []int64) int {
	many := 0
	for i, n := range l {
		if !slices.ContainsFunc(l[i+1:], func(x int64) bool { return x == n || (x < n) == (code == glyph.Min) }) {
			many++
		}
	}
	return many
}

// checkWindow holds all that a window tells against what it is to be; twice,
// since to be asked changes nothing.
func checkWindow(t *testing.T, what string, w *Window, m *model) {
	t.Helper()
	for range 2 {
		if w.Came() != len(m.rows) || w.Told() != m.told || w.Words() != m.words() {
			t.Fatalf("%s: by %v, %d back, %d ahead: Came %d, Told %d, Words %d, want %d, %d, %d",
				what, m.f, m.back, m.look, w.Came(), w.Told(), w.Words(), len(m.rows), m.told, m.words())
		}
	}
}

// checkPush lets a row come to both, and checkDrain asks both for the next
// answer, where no more rows come.
func checkPush(t *testing.T, w *Window, m *model, row []int64) {
	t.Helper()
	want, due := m.push(row)
	l, ok, e := w.Push(row)
	if !slices.Equal(l, want) || ok != due || e != api.OK || !ok && l != nil {
		t.Fatalf("by %v, %d back, %d ahead: Push of row %d: got %d, %t, %d, want %d, %t",
			m.f, m.back, m.look, len(m.rows)-1, l, ok, e, want, due)
	}
	checkWindow(t, "behind Push", w, m)
}

func checkDrain(t *testing.T, w *Window, m *model) bool {
	t.Helper()
	want, due := m.drain()
	l, ok := w.Drain()
	if !slices.Equal(l, want) || ok != due || !ok && l != nil {
		t.Fatalf("by %v, %d back, %d ahead: Drain behind %d rows: got %d, %t, want %d, %t",
			m.f, m.back, m.look, len(m.rows), l, ok, want, due)
	}
	checkWindow(t, "behind Drain", w, m)
	return ok
}

// checkEnd drains a window, and looks whether it stays so.
func checkEnd(t *testing.T, w *Window, m *model) {
	t.Helper()
	for checkDrain(t, w, m) {
	}
	if w.Told() != w.Came() {
		t.Fatalf("Told %d answers to %d rows", w.Told(), w.Came())
	}
	for range 3 {
		checkDrain(t, w, m)
	}
}

// sample is the n-th row of so many numbers, of which some stand at the ends,
// and some are the same for a while.
func sample(n int64, width int) []int64 {
	row := make([]int64, width)
	for i := range row {
		row[i] = (n*31 + int64(i)*17 + 5) * -7046029254386353131
		switch (n + int64(i)) % 5 {
		case 0:
			row[i] = []int64{least, greatest, 0, -1, 1}[n%5]
		case 1:
			row[i] = n*n%19 - 9
		case 2, 3:
			row[i] = n / 7 % 3
		}
	}
	return row
}

func TestWay(t *testing.T) {
	all := 0
	for want, codes := range ways() {
		for _, code := range codes {
			for _, swap := range []bool{false, true} {
				if way := Way(api.Fn{Code: code, Swap: swap}); way != want {
					t.Errorf("Way of %d: got %d, want %d", code, way, want)
				}
			}
		}
		all += len(codes)
	}
	if all != 18 || Past != 1 || Twin != 2 || Deque != 3 {
		t.Errorf("%d codes; ways %d, %d, %d", all, Past, Twin, Deque)
	}
	for _, code := range without() {
		if way := Way(api.Fn{Code: code}); way != Past {
			t.Errorf("Way of %d: got %d", code, way)
		}
	}
}

// spans are how far back and ahead a window may reach, and may not.
func spans() ([][2]int, [][2]int) {
	var fit [][2]int
	for back := range api.MaxWindow {
		for look := range api.MaxWindow - back {
			fit = append(fit, [2]int{back, look})
		}
	}
	unfit := [][2]int{
		{-1, 0}, {0, -1}, {-1, -1}, {-1, 32}, {32, -1}, {-5, 5}, {40, -20}, {-20, 40}, {32, 0}, {0, 32}, {31, 1}, {1, 31}, {16, 16}, {31, 31},
		{64, 0}, {0, 64}, {1 << 32, 0}, {0, 1 << 32}, {math.MaxInt, 0}, {0, math.MaxInt}, {math.MaxInt, 1}, {1, math.MaxInt},
		{math.MaxInt, math.MaxInt}, {math.MinInt, 0}, {0, math.MinInt}, {math.MinInt, math.MinInt}, {math.MinInt, math.MaxInt}, {math.MaxInt, math.MinInt},
	}
	return fit, unfit
}

func TestNewOfSpans(t *testing.T) {
	fit, unfit := spans()
	if len(fit) != 32*33/2 {
		t.Fatalf("%d spans", len(fit))
	}
	for _, f := range few() {
		for _, s := range fit {
			w, m := fresh(t, f, s[0], s[1], 1)
			checkWindow(t, "a new one", w, m)
		}
		for _, s := range unfit {
			for _, width := range []int{0, 1, api.MaxSize} {
				if w, e := New(f, s[0], s[1], width); w != nil || e != api.ErrWindow {
					t.Errorf("New(%v, %d, %d, %d): got %v, %d", f, s[0], s[1], width, w, e)
				}
			}
		}
	}
}

func TestNewOfWidths(t *testing.T) {
	for _, f := range functions() {
		for _, width := range []int{0, 1, 2, 63, api.MaxSize} {
			w, m := fresh(t, f, 3, 2, width)
			checkWindow(t, "a new one", w, m)
		}
		for _, width := range []int{-1, api.MaxSize + 1, -api.MaxSize, 1 << 32, math.MaxInt, math.MinInt} {
			if w, e := New(f, 3, 2, width); w != nil || e != api.ErrArg {
				t.Errorf("New(%v) of the width %d: got %v, %d", f, width, w, e)
			}
		}
	}
}

func TestNewOfCodesAndTheOrderOfErrors(t *testing.T) {
	_, unfit := spans()
	for _, s := range append(unfit, [2]int{0, 0}, [2]int{3, 2}) {
		for _, code := range without() {
			for _, swap := range []bool{false, true} {
				f := api.Fn{Code: code, Swap: swap}
				if w, e := New(f, s[0], s[1], 1); w != nil || e != api.ErrValence {
					t.Errorf("New(%v, %d, %d, 1): got %v, %d", f, s[0], s[1], w, e)
				}
				if w, e := New(f, s[0], s[1], -1); w != nil || e != api.ErrArg {
					t.Errorf("New(%v, %d, %d, -1): got %v, %d", f, s[0], s[1], w, e)
				}
			}
		}
		if w, e := New(api.Fn{Code: glyph.Plus}, s[0], s[1], api.MaxSize+1); w != nil || e != api.ErrArg {
			t.Errorf("New(%d, %d) of too great a width: got %v, %d", s[0], s[1], w, e)
		}
	}
}

// TestByHand has answers that were written by hand, those behind the end last.
func TestByHand(t *testing.T) {
	for _, x := range []struct {
		f          api.Fn
		back, look int
		nums, want []int64
	}{
		{api.Fn{Code: glyph.Plus}, 1, 1, []int64{1, 2, 4}, []int64{3, 7, 6}},
		{api.Fn{Code: glyph.Plus}, 2, 0, []int64{1, 2, 3, 4}, []int64{1, 3, 6, 9}},
		{api.Fn{Code: glyph.Plus}, 0, 2, []int64{1, 2, 3, 4}, []int64{6, 9, 7, 4}},
		{api.Fn{Code: glyph.Plus}, 0, 0, []int64{5, 7}, []int64{5, 7}},
		{api.Fn{Code: glyph.Plus}, 3, 4, []int64{5, 7}, []int64{12, 12}},
		{api.Fn{Code: glyph.Plus}, 1, 0, []int64{greatest, 1, 2}, []int64{greatest, least, 3}},
		{api.Fn{Code: glyph.Minus}, 1, 1, []int64{1, 2, 4}, []int64{-1, 3, -2}},
		{api.Fn{Code: glyph.Minus}, 2, 0, []int64{1, 2, 4, 8}, []int64{1, -1, 3, 6}},
		{api.Fn{Code: glyph.Minus, Swap: true}, 2, 0, []int64{1, 2, 4, 8}, []int64{1, 1, 1, 2}},
		{api.Fn{Code: glyph.Max}, 1, 1, []int64{-3, -5, -2, -7}, []int64{-3, -2, -2, -2}},
		{api.Fn{Code: glyph.Min}, 1, 1, []int64{-3, -5, -2, -7}, []int64{-5, -5, -7, -7}},
		{api.Fn{Code: glyph.Min}, 1, 0, []int64{3, 5, greatest, greatest}, []int64{3, 3, 5, greatest}},
		{api.Fn{Code: glyph.Left}, 1, 1, []int64{4, 5, 6}, []int64{4, 4, 5}},
		{api.Fn{Code: glyph.Left, Swap: true}, 1, 1, []int64{4, 5, 6}, []int64{5, 6, 6}},
		{api.Fn{Code: glyph.Right}, 1, 1, []int64{4, 5, 6}, []int64{5, 6, 6}},
		{api.Fn{Code: glyph.Right, Swap: true}, 1, 1, []int64{4, 5, 6}, []int64{4, 4, 5}},
		{api.Fn{Code: glyph.Times}, 2, 0, []int64{2, -3, 5, 7}, []int64{2, -6, -30, -105}},
		{api.Fn{Code: glyph.And}, 1, 0, []int64{7, 13, 6}, []int64{7, 5, 4}},
		{api.Fn{Code: glyph.Or}, 1, 0, []int64{1, 4, 8}, []int64{1, 5, 12}},
		{api.Fn{Code: glyph.Over}, 1, 1, []int64{9, 2, 0}, []int64{4, 0, 0}},
		{api.Fn{Code: glyph.Less}, 0, 1, []int64{1, 2, 2}, []int64{1, 0, 2}},
	} {
		w, _ := fresh(t, x.f, x.back, x.look, 1)
		var got []int64
		for i, n := range x.nums {
			l, ok, e := w.Push([]int64{n})
			if ok != (i >= x.look) || len(l) > 0 != ok || e != api.OK {
				t.Errorf("by %v: Push: got %d, %t, %d", x.f, l, ok, e)
			}
			got = append(got, l...)
		}
		for l, ok := w.Drain(); ok; l, ok = w.Drain() {
			got = append(got, l...)
		}
		if !slices.Equal(got, x.want) {
			t.Errorf("by %v, %d back, %d ahead, of %d: got %d, want %d", x.f, x.back, x.look, x.nums, got, x.want)
		}
	}
}

func TestWordsByHand(t *testing.T) {
	for _, x := range []struct {
		code int
		want []int
	}{
		// One back, two ahead: the row 0 goes when the answer to the row 2 is
		// told, with which the row 4 comes.
		{glyph.Minus, []int{2, 4, 6, 8, 8, 6, 4, 4}},
		{glyph.Plus, []int{4, 8, 12, 16, 16, 12, 8, 8}},
		// Kept are 5 and 6; 5 3 and 6; 5 4 and 6; 5 4 1 and 6 5; 4 2 and 7; the
		// same; 2 and 7; the same.
		{glyph.Max, []int{4, 6, 6, 10, 6, 6, 4, 4}},
	} {
		w, _ := fresh(t, api.Fn{Code: x.code}, 1, 2, 2)
		var got []int
		for _, row := range [][]int64{{5, 6}, {3, 6}, {4, 6}, {1, 5}, {2, 7}} {
			w.Push(row)
			got = append(got, w.Words())
		}
		for range 3 {
			w.Drain()
			got = append(got, w.Words())
		}
		if !slices.Equal(got, x.want) {
			t.Errorf("by %d: got Words %d, want %d", x.code, got, x.want)
		}
	}
}

func TestOfNil(t *testing.T) {
	var w *Window
	for _, row := range [][]int64{nil, {}, {1}, {1, 2}} {
		if l, ok, e := w.Push(row); l != nil || ok || e != api.ErrArg {
			t.Errorf("Push: got %d, %t, %d", l, ok, e)
		}
	}
	if l, ok := w.Drain(); l != nil || ok {
		t.Errorf("Drain: got %d, %t", l, ok)
	}
	if w.Came() != 0 || w.Told() != 0 || w.Words() != 0 || w.Clone() != nil {
		t.Errorf("got Came %d, Told %d, Words %d, a Clone %v", w.Came(), w.Told(), w.Words(), w.Clone())
	}
}

// TestAllSpans goes through all of them, behind any short number of rows and
// behind more than a window has.
func TestAllSpans(t *testing.T) {
	fit, _ := spans()
	for _, f := range few() {
		for _, s := range fit {
			for _, came := range []int{0, 1, 2, s[1], s[1] + 1, s[0] + s[1] + 1, 40} {
				w, m := fresh(t, f, s[0], s[1], 1)
				for i := range int64(came) {
					checkPush(t, w, m, sample(i, 1))
				}
				checkEnd(t, w, m)
			}
		}
	}
}

func TestAllFunctions(t *testing.T) {
	for _, f := range functions() {
		for _, s := range [][2]int{{0, 0}, {1, 0}, {0, 1}, {2, 3}, {5, 1}, {31, 0}, {0, 31}, {15, 16}} {
			for _, width := range []int{0, 1, 3} {
				w, m := fresh(t, f, s[0], s[1], width)
				for i := range int64(48) {
					checkPush(t, w, m, sample(i, width))
				}
				checkEnd(t, w, m)
			}
		}
	}
}

func TestTheGreatestWidth(t *testing.T) {
	for _, f := range functions() {
		w, m := fresh(t, f, 3, 2, api.MaxSize)
		for i := range int64(12) {
			checkPush(t, w, m, sample(i, api.MaxSize))
		}
		checkEnd(t, w, m)
	}
}

// TestAllShortRunsOfRows lets all rows of few numbers come, in all orders.
func TestAllShortRunsOfRows(t *testing.T) {
	const many, kinds = 6, 3
	runs := 1
	for range many {
		runs *= kinds
	}
	for _, f := range few() {
		for _, s := range [][2]int{{0, 0}, {1, 1}, {2, 0}, {0, 2}, {3, 2}} {
			for run := range runs {
				w, m := fresh(t, f, s[0], s[1], 1)
				for range many {
					checkPush(t, w, m, []int64{int64(run%kinds) - 1})
					run /= kinds
				}
				checkEnd(t, w, m)
			}
		}
	}
}

func TestNoMoreRowsBehindDrain(t *testing.T) {
	for _, f := range few() {
		for _, width := range []int{0, 1, 2} {
			for came := range int64(5) {
				w, m := fresh(t, f, 1, 2, width)
				for i := range came {
					checkPush(t, w, m, sample(i, width))
				}
				// The first Drain may have told nothing, too.
				for range 6 {
					checkDrain(t, w, m)
					for _, length := range []int{width, width + 1, 0} {
						if l, ok, e := w.Push(sample(9, length)); l != nil || ok || e != api.ErrEnd {
							t.Fatalf("Push behind Drain: got %d, %t, %d", l, ok, e)
						}
						checkWindow(t, "behind Push behind Drain", w, m)
					}
				}
			}
		}
	}
}

func TestUnlikeLengthsChangeNothing(t *testing.T) {
	for _, f := range few() {
		for _, width := range []int{0, 1, 2, 64} {
			w, m := fresh(t, f, 1, 1, width)
			for i := range int64(4) {
				for _, length := range []int{0, 1, 2, 3, 63, 64, 65, 1000} {
					if length == width {
						continue
					}
					if l, ok, e := w.Push(sample(50, length)); l != nil || ok || e != api.ErrLength {
						t.Errorf("Push of %d numbers of %d: got %d, %t, %d", length, width, l, ok, e)
					}
					checkWindow(t, "behind a row of another length", w, m)
				}
				checkPush(t, w, m, sample(i, width))
			}
			checkEnd(t, w, m)
		}
	}
}

func TestRowsWithoutNumbers(t *testing.T) {
	w, _ := fresh(t, api.Fn{Code: glyph.Plus}, 1, 1, 0)
	for i, row := range [][]int64{nil, {}, nil} {
		if l, ok, e := w.Push(row); len(l) != 0 || ok != (i > 0) || e != api.OK || w.Came() != i+1 {
			t.Errorf("Push: got %d, %t, %d, Came %d", l, ok, e, w.Came())
		}
	}
	if l, ok := w.Drain(); len(l) != 0 || !ok || w.Told() != 3 || w.Words() != 0 {
		t.Errorf("Drain: got %d, %t, Told %d, Words %d", l, ok, w.Told(), w.Words())
	}
	if l, ok := w.Drain(); l != nil || ok {
		t.Errorf("Drain behind all: got %d, %t", l, ok)
	}
}

// spoil writes into a row, and behind it.
func spoil(row []int64) {
	for i := range row[:cap(row)] {
		row[:cap(row)][i] = 77
	}
}

func TestWhatIsHandedInIsNeitherChangedNorKept(t *testing.T) {
	for _, f := range functions() {
		w, m := fresh(t, f, 2, 1, 2)
		for i := range int64(6) {
			row := append(sample(i, 2), 10)
			want := slices.Clone(row)
			checkPush(t, w, m, row[:2])
			if !slices.Equal(row, want) {
				t.Errorf("what was handed in came to be %d", row)
			}
			spoil(row)
		}
		checkEnd(t, w, m)
	}
}

func TestAnswersAreNew(t *testing.T) {
	for _, f := range functions() {
		w, m := fresh(t, f, 2, 1, 3)
		var told, want [][]int64
		for i := range int64(8) {
			l, ok := m.push(sample(i, 3))
			row, _, _ := w.Push(sample(i, 3))
			if ok {
				told, want = append(told, row), append(want, l)
			}
		}
		for i := range told {
			if !slices.Equal(told[i], want[i]) {
				t.Errorf("by %v: what was told came to be %d, not %d", f, told[i], want[i])
			}
			spoil(told[i])
		}
		checkWindow(t, "behind a change of what was told", w, m)
		l, _ := w.Clone().Drain()
		spoil(l)
		checkEnd(t, w, m)
	}
}

func TestACloneIsByItself(t *testing.T) {
	for _, f := range functions() {
		for came := range int64(9) {
			for drained := range 3 {
				w, m := fresh(t, f, 2, 2, 2)
				for i := range came {
					checkPush(t, w, m, sample(i, 2))
				}
				for range drained {
					checkDrain(t, w, m)
				}
				c, o := w.Clone(), m.clone()
				checkWindow(t, "a clone", c, o)
				for i := range int64(7) {
					if drained > 0 {
						break
					}
					checkPush(t, c, o, sample(60+i, 2))
					checkWindow(t, "what was cloned", w, m)
					checkPush(t, w, m, sample(70+i*3, 2))
					checkWindow(t, "a clone", c, o)
				}
				if _, _, e := c.Push(sample(1, 2)); (e == api.ErrEnd) != (drained > 0) {
					t.Fatalf("Push to a clone: got %d", e)
				} else if e == api.OK {
					o.push(sample(1, 2))
				}
				checkEnd(t, c, o)
				checkWindow(t, "what was cloned", w, m)
				checkEnd(t, w, m)
			}
		}
	}
}

// answers tells those to all rows.
func answers(t *testing.T, f api.Fn, back, look int, rows [][]int64) [][]int64 {
	t.Helper()
	w, _ := fresh(t, f, back, look, 1)
	var all [][]int64
	for _, row := range rows {
		if l, ok, _ := w.Push(row); ok {
			all = append(all, l)
		}
	}
	for l, ok := w.Drain(); ok; l, ok = w.Drain() {
		all = append(all, l)
	}
	return all
}

// TestAnswersHangOnTheRowsAroundAlone lets another row come at each place: by
// Plus just the answers around it are others, by the rest no further ones.
func TestAnswersHangOnTheRowsAroundAlone(t *testing.T) {
	const many = 20
	var rows [][]int64
	for i := range int64(many) {
		rows = append(rows, sample(i, 1))
	}
	for _, f := range functions() {
		for _, s := range [][2]int{{0, 0}, {1, 0}, {0, 1}, {2, 3}, {7, 1}, {15, 16}} {
			ahead := answers(t, f, s[0], s[1], rows)
			for at := range many {
				others := slices.Clone(rows)
				others[at] = []int64{rows[at][0] + 1}
				behind := answers(t, f, s[0], s[1], others)
				if len(ahead) != many || len(behind) != many {
					t.Fatalf("%d and %d answers to %d rows", len(ahead), len(behind), many)
				}
				for i := range many {
					around := at-i <= s[1] && i-at <= s[0]
					other := !slices.Equal(ahead[i], behind[i])
					if other && !around || f.Code == glyph.Plus && other != around {
						t.Fatalf("by %v, %d back, %d ahead: of another row %d, the answer to %d: %t", f, s[0], s[1], at, i, other)
					}
				}
			}
		}
	}
}

// TestAWindowThatMovesOn lets far more rows through than are held, and looks
// whether what is held stays within the promised bounds.
func TestAWindowThatMovesOn(t *testing.T) {
	for _, f := range functions() {
		w, m := fresh(t, f, 4, 3, 2)
		for i := range int64(600) {
			checkPush(t, w, m, sample(i, 2))
			if words := w.Words(); words > 2*(4+3+1)*2 || Way(f) == Past && words > 2*(4+3+1) {
				t.Fatalf("by %v: there are %d Words", f, words)
			}
		}
		for _, c := range w.columns {
			if c, ok := c.(*past); ok && cap(c.nums) > 4*(4+3+1) {
				t.Errorf("by %v: there is memory for %d numbers", f, cap(c.nums))
			}
		}
		checkEnd(t, w, m)
	}
}

func TestTwoWindowsHaveNothingInCommon(t *testing.T) {
	for _, f := range few() {
		for _, g := range few() {
			v, n := fresh(t, f, 1, 1, 1)
			w, m := fresh(t, g, 2, 0, 2)
			for i := range int64(6) {
				checkPush(t, v, n, sample(i, 1))
				checkWindow(t, "the other one", w, m)
				checkPush(t, w, m, sample(i+3, 2))
				checkWindow(t, "the one", v, n)
			}
			checkEnd(t, v, n)
			checkPush(t, w, m, sample(20, 2))
			checkEnd(t, w, m)
		}
	}
}
