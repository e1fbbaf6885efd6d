package runner

import (
	"math"
	"slices"
	"testing"

	"riffle/api"
	"riffle/fold"
	"riffle/glyph"
)

const least, greatest = math.MinInt64, math.MaxInt64

// joining are the functions that a runner may have, Swap or not.
func joining() []api.Fn {
	var l []api.Fn
	for _, code := range []int{glyph.Plus, glyph.Times, glyph.Max, glyph.Min, glyph.And, glyph.Or, glyph.Left, glyph.Right} {
		l = append(l, api.Fn{Code: code}, api.Fn{Code: code, Swap: true})
	}
	return l
}

// fresh tells a runner that may be.
func fresh(t *testing.T, f api.Fn, width int) *Runner {
	t.Helper()
	r, e := New(f, width)
	if r == nil || e != api.OK {
		t.Fatalf("New(%v, %d): got %v, %d", f, width, r, e)
	}
	return r
}

// sample is the n-th row of so many numbers, of which some stand at the ends.
func sample(n int64, width int) []int64 {
	row := make([]int64, width)
	for i := range row {
		row[i] = (n*31 + int64(i)*17 + 5) * -7046029254386353131
		switch (n + int64(i)) % 5 {
		case 0:
			row[i] = []int64{least, greatest, 0, -1, 1}[n%5]
		case 1:
			row[i] = n*n%19 - 9
		}
	}
	return row
}

// meant tells what rows come to, by Row of each place's numbers.
func meant(t *testing.T, f api.Fn, rows [][]int64, width int) []int64 {
	t.Helper()
	var l []int64
	for place := range width {
		var column []int64
		for _, row := range rows {
			column = append(column, row[place])
		}
		n, ok := fold.Row(f, column)
		if !ok {
			t.Fatalf("Row of %v and %d: got nothing", f, column)
		}
		l = append(l, n)
	}
	return l
}

// checkRunner holds all that a runner tells against the rows that came; twice,
// since to be asked changes nothing.
func checkRunner(t *testing.T, what string, r *Runner, f api.Fn, rows [][]int64, width int) {
	t.Helper()
	for range 2 {
		l, ok := r.Now()
		if r.Came() != len(rows) || ok != (len(rows) > 0) {
			t.Fatalf("%s: got %t, a Came of %d, want %d rows", what, ok, r.Came(), len(rows))
		}
		if !ok && l != nil || ok && !slices.Equal(l, meant(t, f, rows, width)) {
			t.Fatalf("%s: Now by %v of %d: got %d", what, f, rows, l)
		}
	}
}

// checkPush lets a row come that may, and tells all that came then.
func checkPush(t *testing.T, r *Runner, f api.Fn, rows [][]int64, row []int64) [][]int64 {
	t.Helper()
	rows = append(slices.Clone(rows), slices.Clone(row))
	want := meant(t, f, rows, len(row))
	if l, e := r.Push(row); !slices.Equal(l, want) || e != api.OK {
		t.Fatalf("Push by %v of %d: got %d, %d, want %d", f, rows, l, e, want)
	}
	checkRunner(t, "behind Push", r, f, rows, len(row))
	return rows
}

func TestNewOfWidths(t *testing.T) {
	for _, x := range []struct {
		width int
		e     api.Errno
	}{
		{0, api.OK}, {1, api.OK}, {2, api.OK}, {63, api.OK}, {api.MaxSize, api.OK},
		{-1, api.ErrArg}, {api.MaxSize + 1, api.ErrArg}, {-api.MaxSize, api.ErrArg}, {1 << 32, api.ErrArg}, {math.MaxInt, api.ErrArg}, {math.MinInt, api.ErrArg},
	} {
		for _, f := range joining() {
			r, e := New(f, x.width)
			if e != x.e || (r != nil) != (e == api.OK) {
				t.Errorf("New(%v, %d): got %v, %d, want %d", f, x.width, r, e, x.e)
			}
			if r != nil {
				checkRunner(t, "a new one", r, f, nil, x.width)
			}
		}
	}
}

// refused are the codes of which there is no runner, by the error.
func refused() map[api.Errno][]int {
	without := []int{glyph.Not, 0, -1, -18, glyph.Then + 1, 99, math.MaxInt, math.MinInt}
	for code := glyph.Shape; code <= glyph.Then; code++ {
		without = append(without, code)
	}
	return map[api.Errno][]int{
		api.ErrValence: without,
		api.ErrOpen: {glyph.Minus, glyph.Over, glyph.Power, glyph.Rest, glyph.Equal, glyph.Unlike,
			glyph.Less, glyph.AtMost, glyph.More, glyph.AtLeast},
	}
}

func TestNewOfCodes(t *testing.T) {
	for want, codes := range refused() {
		for _, code := range codes {
			for _, swap := range []bool{false, true} {
				f := api.Fn{Code: code, Swap: swap}
				for _, width := range []int{0, 1, api.MaxSize} {
					if r, e := New(f, width); r != nil || e != want {
						t.Errorf("New(%v, %d): got %v, %d, want %d", f, width, r, e, want)
					}
				}
				for _, width := range []int{-1, api.MaxSize + 1} {
					if r, e := New(f, width); r != nil || e != api.ErrArg {
						t.Errorf("New(%v, %d): got %v, %d, want ErrArg", f, width, r, e)
					}
				}
			}
		}
	}
}

func TestAllScalarCodesAreEitherTakenOrRefused(t *testing.T) {
	for code := glyph.Plus; code <= glyph.Not; code++ {
		taken := slices.Contains(joining(), api.Fn{Code: code})
		if _, e := New(api.Fn{Code: code}, 1); (e == api.OK) != taken {
			t.Errorf("New of %d: got %d", code, e)
		}
	}
}

func TestByHand(t *testing.T) {
	for _, x := range []struct {
		code       int
		rows, want [][]int64
	}{
		{glyph.Plus, [][]int64{{1, 10}, {2, 20}, {-4, greatest}}, [][]int64{{1, 10}, {3, 30}, {-1, least + 29}}},
		{glyph.Times, [][]int64{{2, least}, {3, -1}, {-5, 2}}, [][]int64{{2, least}, {6, least}, {-30, 0}}},
		{glyph.Max, [][]int64{{-3, 7}, {-5, 8}, {-2, 1}}, [][]int64{{-3, 7}, {-3, 8}, {-2, 8}}},
		{glyph.Min, [][]int64{{-3, 7}, {-5, 8}, {-2, 1}}, [][]int64{{-3, 7}, {-5, 7}, {-5, 1}}},
		{glyph.And, [][]int64{{7, -1}, {13, 6}, {6, 3}}, [][]int64{{7, -1}, {5, 6}, {4, 2}}},
		{glyph.Or, [][]int64{{1, 0}, {4, 0}, {8, least}}, [][]int64{{1, 0}, {5, 0}, {13, least}}},
		{glyph.Left, [][]int64{{5, 6}, {7, 8}, {9, 10}}, [][]int64{{5, 6}, {5, 6}, {5, 6}}},
		{glyph.Right, [][]int64{{5, 6}, {7, 8}, {9, 10}}, [][]int64{{5, 6}, {7, 8}, {9, 10}}},
	} {
		r := fresh(t, api.Fn{Code: x.code}, 2)
		for i, row := range x.rows {
			if l, e := r.Push(row); !slices.Equal(l, x.want[i]) || e != api.OK {
				t.Errorf("Push %d by %d: got %d, %d, want %d", row, x.code, l, e, x.want[i])
			}
			if l, ok := r.Now(); !slices.Equal(l, x.want[i]) || !ok || r.Came() != i+1 {
				t.Errorf("Now by %d: got %d, %t, a Came of %d, want %d", x.code, l, ok, r.Came(), x.want[i])
			}
		}
	}
}

func TestSwapChangesPlaces(t *testing.T) {
	for _, x := range []struct{ code, first, last int }{{glyph.Left, 3, 4}, {glyph.Right, 4, 3}} {
		straight := fresh(t, api.Fn{Code: x.code}, 1)
		swapped := fresh(t, api.Fn{Code: x.code, Swap: true}, 1)
		for _, r := range []*Runner{straight, swapped} {
			r.Push([]int64{3})
			r.Push([]int64{4})
		}
		if l, ok := straight.Now(); !ok || l[0] != int64(x.first) {
			t.Errorf("by %d: got %d, %t", x.code, l, ok)
		}
		if l, ok := swapped.Now(); !ok || l[0] != int64(x.last) {
			t.Errorf("by %d, Swap: got %d, %t", x.code, l, ok)
		}
	}
}

func TestOfNil(t *testing.T) {
	var r *Runner
	for _, row := range [][]int64{nil, {}, {1}, {1, 2}} {
		if l, e := r.Push(row); l != nil || e != api.ErrArg {
			t.Errorf("Push: got %d, %d", l, e)
		}
	}
	if l, ok := r.Now(); l != nil || ok {
		t.Errorf("Now: got %d, %t", l, ok)
	}
	if r.Came() != 0 || r.Clone() != nil {
		t.Errorf("got a Came of %d, a Clone %v", r.Came(), r.Clone())
	}
}

func TestWhatIsToldIsRowOfAllThatCame(t *testing.T) {
	for _, f := range joining() {
		for _, width := range []int{0, 1, 2, 5, 63, 64} {
			r := fresh(t, f, width)
			var rows [][]int64
			for i := range int64(40) {
				rows = checkPush(t, r, f, rows, sample(i, width))
			}
		}
	}
}

func TestUnlikeLengthsChangeNothing(t *testing.T) {
	for _, f := range joining() {
		for _, width := range []int{0, 1, 2, 64} {
			r := fresh(t, f, width)
			var rows [][]int64
			for i := range int64(4) {
				for _, length := range []int{0, 1, 2, 3, 63, 64, 65, 1000} {
					if length == width {
						continue
					}
					if l, e := r.Push(sample(50, length)); l != nil || e != api.ErrLength {
						t.Errorf("Push of %d numbers of %d: got %d, %d", length, width, l, e)
					}
					checkRunner(t, "behind a row of another length", r, f, rows, width)
				}
				rows = checkPush(t, r, f, rows, sample(i, width))
			}
		}
	}
}

func TestRowsWithoutNumbers(t *testing.T) {
	r := fresh(t, api.Fn{Code: glyph.Plus}, 0)
	if l, ok := r.Now(); l != nil || ok {
		t.Errorf("Now, ahead of all rows: got %d, %t", l, ok)
	}
	for i, row := range [][]int64{nil, {}, nil} {
		if l, e := r.Push(row); len(l) != 0 || e != api.OK || r.Came() != i+1 {
			t.Errorf("Push: got %d, %d, a Came of %d", l, e, r.Came())
		}
		if l, ok := r.Now(); len(l) != 0 || !ok {
			t.Errorf("Now: got %d, %t", l, ok)
		}
	}
}

func TestWhatIsHandedInIsNeitherChangedNorKept(t *testing.T) {
	for _, f := range joining() {
		r := fresh(t, f, 2)
		var rows [][]int64
		for range 3 {
			row := []int64{8, -9, 10}
			rows = checkPush(t, r, f, rows, row[:2])
			if !slices.Equal(row, []int64{8, -9, 10}) {
				t.Errorf("what was handed in came to be %d", row)
			}
			row[0], row[1] = 77, 78
			checkRunner(t, "behind a change of what was handed in", r, f, rows, 2)
		}
	}
}

// spoil writes into a row, and behind it.
func spoil(row []int64) {
	for i := range row[:cap(row)] {
		row[:cap(row)][i] = 77
	}
}

func TestAnswersAreNew(t *testing.T) {
	for _, f := range joining() {
		r := fresh(t, f, 3)
		var rows [][]int64
		for i := range int64(4) {
			rows = append(rows, sample(i, 3))
			told, _ := r.Push(rows[i])
			now, _ := r.Now()
			want := slices.Clone(told)
			spoil(now)
			if !slices.Equal(told, want) {
				t.Errorf("what Push told came to be %d", told)
			}
			checkRunner(t, "behind a change of what Now told", r, f, rows, 3)
			spoil(told)
			checkRunner(t, "behind a change of what Push told", r, f, rows, 3)
		}
		kept, _ := r.Now()
		want := slices.Clone(kept)
		checkPush(t, r, f, rows, []int64{5, -6, 7})
		if !slices.Equal(kept, want) {
			t.Errorf("what Now told came to be %d", kept)
		}
	}
}

func TestACloneIsByItself(t *testing.T) {
	for _, f := range joining() {
		for came := range int64(4) {
			r := fresh(t, f, 2)
			var rows [][]int64
			for i := range came {
				rows = checkPush(t, r, f, rows, sample(i, 2))
			}
			c, others := r.Clone(), rows
			checkRunner(t, "a clone", c, f, others, 2)
			for i := range int64(5) {
				others = checkPush(t, c, f, others, sample(60+i, 2))
				checkRunner(t, "what was cloned", r, f, rows, 2)
				rows = checkPush(t, r, f, rows, sample(70+i*3, 2))
				checkRunner(t, "a clone", c, f, others, 2)
			}
			if l, e := c.Push(sample(1, 3)); l != nil || e != api.ErrLength {
				t.Errorf("Push to a clone: got %d, %d", l, e)
			}
		}
	}
}

// TestWhatIsToldHangsOnNowAlone lets a runner go on to which many rows came, and
// one to which the row came alone that the other one tells Now.
func TestWhatIsToldHangsOnNowAlone(t *testing.T) {
	for _, f := range joining() {
		long := fresh(t, f, 3)
		for i := range int64(9) {
			long.Push(sample(i, 3))
			now, _ := long.Now()
			short, goes := fresh(t, f, 3), long.Clone()
			short.Push(now)
			for j := range int64(6) {
				a, _ := goes.Push(sample(20+j, 3))
				b, _ := short.Push(sample(20+j, 3))
				if !slices.Equal(a, b) {
					t.Errorf("by %v, of the same Now %d: got %d and %d", f, now, a, b)
				}
			}
		}
	}
}

func TestTwoRunnersHaveNothingInCommon(t *testing.T) {
	plus, times := api.Fn{Code: glyph.Plus}, api.Fn{Code: glyph.Times}
	r, s := fresh(t, plus, 1), fresh(t, times, 1)
	rows := checkPush(t, r, plus, nil, []int64{3})
	others := checkPush(t, s, times, nil, []int64{5})
	checkRunner(t, "the one", r, plus, rows, 1)
	rows = checkPush(t, r, plus, rows, []int64{4})
	checkRunner(t, "the other one", s, times, others, 1)
	checkPush(t, s, times, others, []int64{6})
	checkRunner(t, "the one", r, plus, rows, 1)
}
