package tape

import (
	"math"
	"slices"
	"testing"

	"riffle/api"
)

// fresh tells a tape that may be, and what it is to be.
func fresh(t *testing.T, width int) (*Tape, *model) {
	t.Helper()
	p, e := New(width)
	if p == nil || e != api.OK {
		t.Fatalf("New(%d): got %v, %d", width, p, e)
	}
	return p, &model{width: width}
}

// model is what a tape is to be: all rows, also those that were forgotten, and
// how many these are.
type model struct {
	width, first int
	rows         [][]int64
}

// clone tells a model by itself.
func (m *model) clone() *model {
	c := *m
	c.rows = slices.Clone(m.rows)
	return &c
}

// set follows the chapter's words: what is told of each place, one kind behind
// the other.
func (m *model) set(at int, rows [][]int64) []api.Delta {
	all := slices.Concat(m.rows[:at], deep(rows))
	var l []api.Delta
	for i := at; i < min(len(m.rows), len(all)); i++ {
		if !slices.Equal(m.rows[i], all[i]) {
			l = append(l, api.Delta{Kind: 2, At: i, Vals: all[i]})
		}
	}
	for i := len(m.rows) - 1; i >= len(all); i-- {
		l = append(l, api.Delta{Kind: 3, At: i})
	}
	for i := len(m.rows); i < len(all); i++ {
		l = append(l, api.Delta{Kind: 1, At: i, Vals: all[i]})
	}
	m.rows = all
	return l
}

func (m *model) forget(to int) {
	m.first = max(m.first, min(to, len(m.rows)))
}

// deep tells rows that share nothing with these.
func deep(rows [][]int64) [][]int64 {
	var l [][]int64
	for _, row := range rows {
		l = append(l, slices.Clone(row))
	}
	return l
}

func sameDeltas(a, b []api.Delta) bool {
	return slices.EqualFunc(a, b, func(x, y api.Delta) bool {
		return x.Kind == y.Kind && x.At == y.At && slices.Equal(x.Vals, y.Vals)
	})
}

func sameRows(a, b [][]int64) bool {
	return slices.EqualFunc(a, b, slices.Equal[[]int64])
}

// folded does what deltas say to rows, as far as they fit.
func folded(t *testing.T, rows [][]int64, l []api.Delta) [][]int64 {
	t.Helper()
	rows = slices.Clone(rows)
	for _, d := range l {
		switch {
		case d.Kind == api.Append && d.At == len(rows):
			rows = append(rows, d.Vals)
		case d.Kind == api.Replace && d.At < len(rows):
			rows[d.At] = d.Vals
		case d.Kind == api.Retract && d.At == len(rows)-1 && d.Vals == nil:
			rows = rows[:d.At]
		default:
			t.Fatalf("of %d rows: a delta %v", len(rows), d)
		}
	}
	return rows
}

// checkTape holds all that a tape tells against what it is to be; twice, since
// to be asked changes nothing.
func checkTape(t *testing.T, what string, p *Tape, m *model) {
	t.Helper()
	for range 2 {
		words := (len(m.rows) - m.first) * m.width
		if p.First() != m.first || p.End() != len(m.rows) || p.Words() != words {
			t.Fatalf("%s: got First %d, End %d, Words %d, want %d, %d, %d", what, p.First(), p.End(), p.Words(), m.first, len(m.rows), words)
		}
		for i, want := range m.rows {
			row, ok := p.Row(i)
			if ok != (i >= m.first) || ok && !slices.Equal(row, want) || !ok && row != nil {
				t.Fatalf("%s: Row(%d), %d forgotten: got %d, %t, want %d", what, i, m.first, row, ok, want)
			}
		}
	}
	for _, i := range []int{-1, -2, len(m.rows), len(m.rows) + 1, math.MinInt, math.MaxInt, 1 << 32} {
		if row, ok := p.Row(i); row != nil || ok {
			t.Fatalf("%s: Row(%d): got %d, %t", what, i, row, ok)
		}
	}
}

// checkSet sets both, and looks whether the deltas lead from the rows that were
// there to those that are there then.
func checkSet(t *testing.T, p *Tape, m *model, at int, rows [][]int64) []api.Delta {
	t.Helper()
	ahead := m.clone()
	want := m.set(at, rows)
	l, e := p.Set(at, rows)
	if !sameDeltas(l, want) || e != api.OK {
		t.Fatalf("Set(%d, %d) of %d, %d forgotten: got %v, %d, want %v", at, rows, ahead.rows, m.first, l, e, want)
	}
	if got := folded(t, ahead.rows, l); !sameRows(got, m.rows) {
		t.Fatalf("Set(%d, %d) of %d: the deltas %v lead to %d", at, rows, ahead.rows, l, got)
	}
	checkTape(t, "behind Set", p, m)
	return l
}

func checkForget(t *testing.T, p *Tape, m *model, to int) {
	t.Helper()
	p.Forget(to)
	m.forget(to)
	checkTape(t, "behind Forget", p, m)
}

// sample is the n-th row of so many numbers, of which some stand at the ends.
func sample(n int64, width int) []int64 {
	row := make([]int64, width)
	for i := range row {
		row[i] = n*1000 + int64(i)
		if n%5 == 0 {
			row[i] = []int64{math.MinInt64, math.MaxInt64, -1}[(int(n)+i)%3]
		}
	}
	return row
}

// samples are so many rows, from the n-th on.
func samples(n int64, many, width int) [][]int64 {
	var rows [][]int64
	for i := range int64(many) {
		rows = append(rows, sample(n+i, width))
	}
	return rows
}

func TestNew(t *testing.T) {
	for _, x := range []struct {
		width int
		e     api.Errno
	}{
		{0, api.OK}, {1, api.OK}, {2, api.OK}, {63, api.OK}, {api.MaxSize, api.OK},
		{-1, api.ErrArg}, {-api.MaxSize, api.ErrArg}, {api.MaxSize + 1, api.ErrArg}, {1 << 32, api.ErrArg}, {1<<32 + 1, api.ErrArg}, {math.MaxInt, api.ErrArg}, {math.MinInt, api.ErrArg},
	} {
		p, e := New(x.width)
		if e != x.e || (p != nil) != (e == api.OK) {
			t.Errorf("New(%d): got %v, %d, want %d", x.width, p, e, x.e)
		}
		if p != nil {
			checkTape(t, "a new one", p, &model{width: x.width})
		}
	}
}

func TestTheKindsOfDeltas(t *testing.T) {
	if api.Append != 1 || api.Replace != 2 || api.Retract != 3 {
		t.Error("the kinds of deltas are others")
	}
}

// TestByHand has calls, and the deltas that were written by hand.
func TestByHand(t *testing.T) {
	p, _ := fresh(t, 1)
	for _, x := range []struct {
		at   int
		rows [][]int64
		want []api.Delta
		end  int
	}{
		{0, [][]int64{{1}, {2}}, []api.Delta{{Kind: 1, At: 0, Vals: []int64{1}}, {Kind: 1, At: 1, Vals: []int64{2}}}, 2},
		{1, [][]int64{{3}}, []api.Delta{{Kind: 2, At: 1, Vals: []int64{3}}}, 2},
		{1, [][]int64{{3}}, nil, 2},
		{1, nil, []api.Delta{{Kind: 3, At: 1}}, 1},
		{1, nil, nil, 1},
		{0, [][]int64{{1}, {5}, {6}}, []api.Delta{{Kind: 1, At: 1, Vals: []int64{5}}, {Kind: 1, At: 2, Vals: []int64{6}}}, 3},
		{0, [][]int64{{2}, {5}, {7}, {8}}, []api.Delta{{Kind: 2, At: 0, Vals: []int64{2}}, {Kind: 2, At: 2, Vals: []int64{7}}, {Kind: 1, At: 3, Vals: []int64{8}}}, 4},
		{0, [][]int64{{9}}, []api.Delta{{Kind: 2, At: 0, Vals: []int64{9}}, {Kind: 3, At: 3}, {Kind: 3, At: 2}, {Kind: 3, At: 1}}, 1},
		{1, [][]int64{{9}}, []api.Delta{{Kind: 1, At: 1, Vals: []int64{9}}}, 2},
		{0, [][]int64{}, []api.Delta{{Kind: 3, At: 1}, {Kind: 3, At: 0}}, 0},
		{0, [][]int64{}, nil, 0},
	} {
		l, e := p.Set(x.at, x.rows)
		if !sameDeltas(l, x.want) || e != api.OK || p.End() != x.end || p.First() != 0 || p.Words() != x.end {
			t.Errorf("Set(%d, %d): got %v, %d, End %d, want %v, %d", x.at, x.rows, l, e, p.End(), x.want, x.end)
		}
	}
}

func TestForgetByHand(t *testing.T) {
	p, _ := fresh(t, 2)
	p.Set(0, [][]int64{{1, 2}, {3, 4}, {5, 6}, {7, 8}})
	for _, x := range []struct{ to, first, words int }{
		{0, 0, 8}, {-1, 0, 8}, {1, 1, 6}, {1, 1, 6}, {0, 1, 6}, {math.MinInt, 1, 6}, {3, 3, 2}, {2, 3, 2}, {5, 4, 0}, {4, 4, 0}, {math.MaxInt, 4, 0},
	} {
		p.Forget(x.to)
		if p.First() != x.first || p.End() != 4 || p.Words() != x.words {
			t.Errorf("Forget(%d): got First %d, End %d, Words %d, want %d, 4, %d", x.to, p.First(), p.End(), p.Words(), x.first, x.words)
		}
		for i := range 4 {
			if row, ok := p.Row(i); ok != (i >= x.first) || ok && !slices.Equal(row, []int64{int64(2*i + 1), int64(2*i + 2)}) {
				t.Errorf("Row(%d): got %d, %t", i, row, ok)
			}
		}
	}
	l, e := p.Set(4, [][]int64{{9, 9}})
	if !sameDeltas(l, []api.Delta{{Kind: 1, At: 4, Vals: []int64{9, 9}}}) || e != api.OK || p.First() != 4 || p.End() != 5 {
		t.Errorf("Set where all was forgotten: got %v, %d", l, e)
	}
}

func TestOfNil(t *testing.T) {
	var p *Tape
	for _, at := range []int{0, 1, -1, math.MaxInt} {
		for _, rows := range [][][]int64{nil, {}, {{1}}, {nil}} {
			if l, e := p.Set(at, rows); l != nil || e != api.ErrArg {
				t.Errorf("Set: got %v, %d", l, e)
			}
		}
		p.Forget(at)
		if row, ok := p.Row(at); row != nil || ok {
			t.Errorf("Row: got %d, %t", row, ok)
		}
	}
	if p.First() != 0 || p.End() != 0 || p.Words() != 0 || p.Clone() != nil {
		t.Errorf("got First %d, End %d, Words %d, a Clone %v", p.First(), p.End(), p.Words(), p.Clone())
	}
}

// lists are all lists of so many rows at most, of one number of so many kinds.
func lists(many, kinds int) [][][]int64 {
	l := [][][]int64{nil}
	for from := 0; many > 0; many-- {
		to := len(l)
		for _, rows := range l[from:to] {
			for kind := range kinds {
				l = append(l, append(slices.Clone(rows), []int64{int64(kind)}))
			}
		}
		from = to
	}
	return l
}

// TestAllShortTapes sets all short tapes anew in all ways that are short.
func TestAllShortTapes(t *testing.T) {
	for _, ahead := range lists(4, 3) {
		for at := range len(ahead) + 1 {
			for _, rows := range lists(4, 3) {
				p, m := fresh(t, 1)
				checkSet(t, p, m, 0, ahead)
				checkForget(t, p, m, at/2)
				checkSet(t, p, m, at, rows)
			}
		}
	}
}

func TestHoweverItIsSetAndForgotten(t *testing.T) {
	for _, width := range []int{0, 1, 2, 5, 63, api.MaxSize} {
		p, m := fresh(t, width)
		for i := range 150 {
			from, to := p.First(), p.End()
			at := from + i*i*7%(to-from+1)
			rows := samples(int64(at+i/3*(i%2)), i*11%13, width)
			checkSet(t, p, m, at, rows)
			// The same once more is nothing new.
			if l := checkSet(t, p, m, at, rows); len(l) != 0 {
				t.Fatalf("Set of the same: got %v", l)
			}
			if i%3 == 0 {
				checkForget(t, p, m, p.First()+i*5%4-1)
			}
			if i%50 == 49 {
				checkForget(t, p, m, p.End()+i%2)
			}
		}
	}
}

// TestUnlikeInOneNumber sets a row anew that is another one at one place alone,
// of which each is looked at.
func TestUnlikeInOneNumber(t *testing.T) {
	const width = 7
	for row := range 3 {
		for place := range width {
			p, m := fresh(t, width)
			checkSet(t, p, m, 0, samples(1, 3, width))
			rows := samples(1, 3, width)
			rows[row][place] ^= 1 << (place * 9)
			l := checkSet(t, p, m, 0, rows)
			if len(l) != 1 || l[0].Kind != api.Replace || l[0].At != row {
				t.Errorf("the row %d, unlike at %d: got %v", row, place, l)
			}
		}
	}
}

func TestRowsWithoutNumbers(t *testing.T) {
	p, m := fresh(t, 0)
	if l := checkSet(t, p, m, 0, [][]int64{nil, {}, nil}); len(l) != 3 {
		t.Errorf("Set of three rows: got %v", l)
	}
	if row, ok := p.Row(2); len(row) != 0 || !ok {
		t.Errorf("Row: got %d, %t", row, ok)
	}
	checkForget(t, p, m, 1)
	if l := checkSet(t, p, m, 1, [][]int64{{}}); len(l) != 1 || l[0].Kind != api.Retract {
		t.Errorf("Set of a row less: got %v", l)
	}
	if l, e := p.Set(1, [][]int64{{1}}); l != nil || e != api.ErrLength {
		t.Errorf("Set of a row with a number: got %v, %d", l, e)
	}
}

func TestPlacesThatMayNotBeChangeNothing(t *testing.T) {
	for _, width := range []int{0, 1, 3} {
		p, m := fresh(t, width)
		for end := range 6 {
			for _, at := range []int{-1, p.First() - 1, p.End() + 1, p.End() + 7, math.MinInt, math.MaxInt, 1 << 32} {
				// Which place it is comes ahead of the rows' lengths.
				for _, rows := range [][][]int64{nil, samples(1, 1, width), samples(9, 12, width), samples(1, 2, width+1)} {
					if l, e := p.Set(at, rows); l != nil || e != api.ErrArg {
						t.Errorf("Set(%d), from %d to %d: got %v, %d", at, p.First(), p.End(), l, e)
					}
					checkTape(t, "behind Set of such a place", p, m)
				}
			}
			checkSet(t, p, m, p.End(), samples(int64(end), 2, width))
			checkForget(t, p, m, end)
		}
	}
}

func TestUnlikeLengthsChangeNothing(t *testing.T) {
	for _, width := range []int{0, 1, 2, api.MaxSize} {
		p, m := fresh(t, width)
		checkSet(t, p, m, 0, samples(1, 5, width))
		checkForget(t, p, m, 2)
		for _, length := range []int{0, 1, 2, 3, 63, 64, 65, 1000} {
			if length == width {
				continue
			}
			for at := 2; at <= 5; at++ {
				for place := range 4 {
					rows := samples(7, 4, width)
					rows[place] = sample(7, length)
					if l, e := p.Set(at, rows); l != nil || e != api.ErrLength {
						t.Errorf("Set(%d) with a row of %d numbers of %d: got %v, %d", at, length, width, l, e)
					}
					checkTape(t, "behind Set of such rows", p, m)
				}
			}
		}
		checkSet(t, p, m, 3, samples(7, 4, width))
	}
}

// spoil writes into a row, and behind it.
func spoil(row []int64) {
	for i := range row[:cap(row)] {
		row[:cap(row)][i] = 77
	}
}

func TestWhatIsHandedInIsNeitherChangedNorKept(t *testing.T) {
	p, m := fresh(t, 3)
	for i := range int64(6) {
		// Of these some are replaced, and some are appended.
		rows := samples(3*i, 5, 3)
		nums := slices.Concat(rows...)
		for j := range rows {
			rows[j] = nums[3*j : 3*j+3]
		}
		want, list := deep(rows), slices.Clone(rows)
		l := checkSet(t, p, m, int(i), rows[:4])
		if !sameRows(rows, want) || !sameRows(list, want) {
			t.Errorf("what was handed in came to be %d", rows)
		}
		told := deep(vals(l))
		spoil(nums)
		clear(rows)
		checkTape(t, "behind a change of what was handed in", p, m)
		if !sameRows(vals(l), told) {
			t.Errorf("what was told came to be %v", l)
		}
	}
}

// vals tells the rows of deltas.
func vals(l []api.Delta) [][]int64 {
	var rows [][]int64
	for _, d := range l {
		rows = append(rows, d.Vals)
	}
	return rows
}

func TestAnswersAreNew(t *testing.T) {
	p, m := fresh(t, 2)
	for i := range int64(5) {
		l := checkSet(t, p, m, int(i), samples(2*i, 4, 2))
		for j, d := range l {
			others := deep(vals(l[j+1:]))
			spoil(d.Vals)
			if !sameRows(vals(l[j+1:]), others) {
				t.Errorf("rows of one answer share numbers: %v", l)
			}
		}
		clear(l)
		checkTape(t, "behind a change of what Set told", p, m)
		row, _ := p.Row(int(i))
		spoil(row)
		checkTape(t, "behind a change of what Row told", p, m)
	}
	kept, _ := p.Row(6)
	l := checkSet(t, p, m, 6, samples(40, 2, 2))
	want, told := slices.Clone(kept), deep(vals(l))
	checkSet(t, p, m, 4, samples(50, 9, 2))
	checkForget(t, p, m, 5)
	checkSet(t, p, m, 5, samples(60, 9, 2))
	if !slices.Equal(kept, want) || !sameRows(vals(l), told) {
		t.Errorf("what was told came to be %d, %v", kept, l)
	}
}

func TestACloneIsByItself(t *testing.T) {
	for forgotten := range 6 {
		p, m := fresh(t, 2)
		checkSet(t, p, m, 0, samples(1, 5, 2))
		checkForget(t, p, m, forgotten)
		c, o := p.Clone(), m.clone()
		checkTape(t, "a clone", c, o)
		for i := range 6 {
			checkSet(t, c, o, c.First()+i%(c.End()-c.First()+1), samples(int64(20+i), 4-i%3, 2))
			checkTape(t, "what was cloned", p, m)
			checkSet(t, p, m, p.End()-i%(p.End()-p.First()+1), samples(int64(30+i), 2+i%4, 2))
			checkTape(t, "a clone", c, o)
			checkForget(t, c, o, c.First()+1)
			checkTape(t, "what was cloned", p, m)
			checkForget(t, p, m, p.First()+i%2)
			checkTape(t, "a clone", c, o)
		}
		if l, e := c.Set(c.First(), samples(1, 1, 3)); l != nil || e != api.ErrLength {
			t.Errorf("Set of a clone: got %v, %d", l, e)
		}
	}
}

// TestATapeThatMovesOn lets far more rows through than are known, and looks
// whether the memory that is held stays within bounds.
func TestATapeThatMovesOn(t *testing.T) {
	p, _ := fresh(t, 2)
	var rows [][]int64
	for i := range int64(5000) {
		l, e := p.Set(int(i), samples(i, 2+int(i)%3, 2))
		if e != api.OK {
			t.Fatalf("Set: got %d", e)
		}
		rows = folded(t, rows, l)
		p.Forget(int(i) - 4)
		if p.Words() != (p.End()-p.First())*2 || p.Words() > 2*9 {
			t.Fatalf("there are %d Words, from %d to %d", p.Words(), p.First(), p.End())
		}
	}
	if cap(p.nums) > 2*2*9 {
		t.Errorf("there is memory for %d numbers", cap(p.nums))
	}
	for i, want := range rows {
		if row, ok := p.Row(i); ok != (i >= p.First()) || ok && !slices.Equal(row, want) {
			t.Errorf("Row(%d): got %d, %t", i, row, ok)
		}
	}
}

func TestTwoTapesHaveNothingInCommon(t *testing.T) {
	p, m := fresh(t, 1)
	q, n := fresh(t, 2)
	for i := range 5 {
		checkSet(t, p, m, i, samples(int64(i), 2, 1))
		checkTape(t, "the other one", q, n)
		checkSet(t, q, n, i/2, samples(int64(i)+9, 3, 2))
		checkTape(t, "the one", p, m)
	}
	checkForget(t, p, m, 3)
	checkTape(t, "the other one", q, n)
}
