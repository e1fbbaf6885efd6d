package spread

import (
	"math"
	"slices"
	"testing"

	"riffle/api"
	"riffle/cell"
	"riffle/glyph"
	"riffle/scalar"
	"riffle/shape"
)

// axes are some that may be: all kinds of ranks, with noughts and ones.
func axes() [][]int {
	return [][]int{nil, {}, {0}, {1}, {2}, {3}, {64}, {1, 1}, {1, 2}, {2, 1}, {2, 3}, {3, 2}, {2, 0}, {0, 2}, {0, 0}, {8, 8},
		{1, 1, 1}, {2, 3, 4}, {4, 3, 2}, {2, 3, 5}, {1, 2, 3}, {0, 64, 64}, {64, 64, 0}, {64, 0, 64}, {4, 4, 4}}
}

// wrong are axes that may not be.
func wrong() [][]int {
	return [][]int{{-1}, {65}, {2, -1}, {0, 65}, {8, 9}, {4, 4, 5}, {1, 1, 1, 1}, {0, 0, 0, 0}, {math.MaxInt}, {math.MinInt}, {1 << 32, 1 << 32}}
}

// sample is a cell of axes that may be, with small numbers and both ends.
func sample(dims []int, seed int64) api.Cell {
	c := cell.Zero(dims)
	for i := range c.Vals {
		c.Vals[i] = (int64(i)*7+seed)%11 - 5
		switch i {
		case 4:
			c.Vals[i] = math.MinInt64
		case 5:
			c.Vals[i] = math.MaxInt64 - seed
		}
	}
	return c
}

// broken are cells that may not be.
func broken() []api.Cell {
	all := []api.Cell{
		{}, {Dims: []int{}, Vals: []int64{}}, {Vals: []int64{1, 2}}, {Dims: []int{2}}, {Dims: []int{2}, Vals: []int64{1}},
		{Dims: []int{2}, Vals: []int64{1, 2, 3}}, {Dims: []int{0}, Vals: []int64{1}}, {Dims: []int{2, 2}, Vals: []int64{1, 2, 3}},
		{Dims: []int{65}, Vals: make([]int64, 65)}, {Dims: []int{1, 1, 1, 1}, Vals: []int64{1}},
	}
	for _, d := range wrong() {
		all = append(all, api.Cell{Dims: d})
	}
	return all
}

// codes are those of all signs, and some that there aren't.
func codes() []int {
	l := []int{0, -1, -19, glyph.Then + 1, math.MaxInt, math.MinInt}
	for code := glyph.Plus; code <= glyph.Then; code++ {
		l = append(l, code)
	}
	return l
}

func list(l ...int64) api.Cell { return api.Cell{Dims: []int{len(l)}, Vals: l} }

// checkFault holds an answer beside an error against the zero value.
func checkFault(t *testing.T, what string, got api.Cell, e, want api.Errno) {
	t.Helper()
	if e != want || got.Dims != nil || got.Vals != nil {
		t.Errorf("%s: got %v, %d, want nothing, %d", what, got, e, want)
	}
}

func checkCell(t *testing.T, what string, got api.Cell, e api.Errno, want api.Cell) {
	t.Helper()
	if e != api.OK || !cell.Same(got, want) {
		t.Errorf("%s: got %v, %d, want %v", what, got, e, want)
	}
}

func TestFit(t *testing.T) {
	for _, x := range []struct {
		a, b, want []int
		e          api.Errno
	}{
		{nil, nil, nil, api.OK}, {nil, []int{}, nil, api.OK}, {nil, []int{3}, []int{3}, api.OK}, {[]int{3}, nil, []int{3}, api.OK},
		{[]int{}, []int{2, 3}, []int{2, 3}, api.OK}, {[]int{2, 3, 4}, []int{}, []int{2, 3, 4}, api.OK}, {nil, []int{0}, []int{0}, api.OK},
		{[]int{0, 5}, nil, []int{0, 5}, api.OK}, {[]int{2, 3}, []int{2, 3}, []int{2, 3}, api.OK}, {[]int{0}, []int{0}, []int{0}, api.OK},
		{[]int{64, 64, 0}, []int{64, 64, 0}, []int{64, 64, 0}, api.OK},
		{[]int{1}, []int{2}, nil, api.ErrLength}, {[]int{2}, []int{1}, nil, api.ErrLength}, {[]int{2}, []int{0}, nil, api.ErrLength},
		{[]int{2, 3}, []int{3, 2}, nil, api.ErrLength}, {[]int{2, 3}, []int{2, 4}, nil, api.ErrLength}, {[]int{1, 3}, []int{2, 3}, nil, api.ErrLength},
		{[]int{2, 3, 4}, []int{2, 3, 5}, nil, api.ErrLength},
		{[]int{2}, []int{2, 2}, nil, api.ErrRank}, {[]int{2, 2}, []int{2}, nil, api.ErrRank}, {[]int{1}, []int{1, 1, 1}, nil, api.ErrRank},
		{[]int{3}, []int{2, 2}, nil, api.ErrRank}, {[]int{0}, []int{0, 0}, nil, api.ErrRank},
	} {
		got, e := Fit(x.a, x.b)
		if e != x.e || !slices.Equal(got, x.want) || (e != api.OK && got != nil) {
			t.Errorf("Fit(%v, %v): got %v, %d, want %v, %d", x.a, x.b, got, e, x.want, x.e)
		}
	}
}

func TestFitOfAxesThatMayNotBe(t *testing.T) {
	for _, bad := range wrong() {
		for _, other := range append(axes(), bad) {
			for _, both := range [][2][]int{{bad, other}, {other, bad}} {
				if got, e := Fit(both[0], both[1]); e != api.ErrArg || got != nil {
					t.Errorf("Fit(%v, %v): got %v, %d", both[0], both[1], got, e)
				}
			}
		}
	}
}

func TestFitIsNewMemory(t *testing.T) {
	for _, both := range [][2][]int{{nil, {2, 3}}, {{2, 3}, nil}, {{2, 3}, {2, 3}}} {
		got, _ := Fit(both[0], both[1])
		got[0] = 99
		for _, d := range both {
			if len(d) > 0 && d[0] != 2 {
				t.Error("an answer's length is an argument's too")
			}
		}
	}
}

func TestOne(t *testing.T) {
	for _, code := range codes() {
		for _, d := range axes() {
			c := sample(d, 3)
			got, e := One(code, c)
			if !scalar.Has(code, 1) {
				checkFault(t, "One without such a use", got, e, api.ErrValence)
				continue
			}
			want := cell.Zero(d)
			for i, n := range c.Vals {
				want.Vals[i], _ = scalar.One(code, n)
			}
			checkCell(t, "One", got, e, want)
		}
	}
}

func TestOneByHand(t *testing.T) {
	got, e := One(glyph.Minus, api.Cell{Dims: []int{2, 2}, Vals: []int64{1, -2, 0, math.MinInt64}})
	checkCell(t, "Minus", got, e, api.Cell{Dims: []int{2, 2}, Vals: []int64{-1, 2, 0, math.MinInt64}})
	got, e = One(glyph.Not, list(0, 1, -5))
	checkCell(t, "Not", got, e, list(1, 0, 0))
	got, e = One(glyph.Power, api.Cell{Vals: []int64{10}})
	checkCell(t, "Power", got, e, api.Cell{Vals: []int64{1024}})
	got, e = One(glyph.Max, list())
	checkFault(t, "Max of no numbers", got, e, api.ErrValence)
}

func TestOneOfCellsThatMayNotBe(t *testing.T) {
	for _, c := range broken() {
		for _, code := range codes() {
			got, e := One(code, c)
			checkFault(t, "One", got, e, api.ErrArg)
		}
	}
}

// at tells what stands at a place of a cell that is spread: its only number,
// if it has no axes.
func at(c api.Cell, place []int) int64 {
	if len(c.Dims) == 0 {
		place = nil
	}
	n, _ := cell.At(c, place)
	return n
}

// meant tells what two cells are to come to, place by place.
func meant(f api.Fn, a, b api.Cell, dims []int) api.Cell {
	want := cell.Zero(dims)
	for i := range want.Vals {
		place := shape.Place(dims, i)
		want.Vals[i], _ = scalar.Do(f, at(a, place), at(b, place))
	}
	return want
}

func TestTwo(t *testing.T) {
	for _, code := range codes() {
		for _, swap := range []bool{false, true} {
			f := api.Fn{Code: code, Swap: swap}
			for _, da := range axes() {
				for _, db := range axes() {
					checkTwo(t, f, sample(da, 2), sample(db, 5))
				}
			}
		}
	}
}

func checkTwo(t *testing.T, f api.Fn, a, b api.Cell) {
	t.Helper()
	got, e := Two(f, a, b)
	dims, fault := Fit(a.Dims, b.Dims)
	switch {
	case !scalar.Has(f.Code, 2):
		checkFault(t, "Two without such a use", got, e, api.ErrValence)
	case fault != api.OK:
		checkFault(t, "Two that don't fit", got, e, fault)
	default:
		checkCell(t, "Two", got, e, meant(f, a, b, dims))
	}
}

func TestTwoByHand(t *testing.T) {
	ten := api.Cell{Vals: []int64{10}}
	square := api.Cell{Dims: []int{2, 2}, Vals: []int64{1, 2, 3, 4}}
	for _, x := range []struct {
		f          api.Fn
		a, b, want api.Cell
	}{
		{api.Fn{Code: glyph.Plus}, ten, list(1, 2), list(11, 12)},
		{api.Fn{Code: glyph.Minus}, ten, list(1, 2), list(9, 8)},
		{api.Fn{Code: glyph.Minus}, list(1, 2), ten, list(-9, -8)},
		{api.Fn{Code: glyph.Minus, Swap: true}, ten, list(1, 2), list(-9, -8)},
		{api.Fn{Code: glyph.Minus, Swap: true}, list(1, 2), list(5, 9), list(4, 7)},
		{api.Fn{Code: glyph.Minus}, ten, ten, api.Cell{Vals: []int64{0}}},
		{api.Fn{Code: glyph.Times}, square, square, api.Cell{Dims: []int{2, 2}, Vals: []int64{1, 4, 9, 16}}},
		{api.Fn{Code: glyph.Less}, api.Cell{Vals: []int64{2}}, square, api.Cell{Dims: []int{2, 2}, Vals: []int64{0, 0, 1, 1}}},
		{api.Fn{Code: glyph.Plus}, ten, list(), list()},
		{api.Fn{Code: glyph.Plus}, list(), ten, list()},
		{api.Fn{Code: glyph.Plus}, list(math.MaxInt64), list(1), list(math.MinInt64)},
		{api.Fn{Code: glyph.Over}, list(-7, 5), list(2, 0), list(-4, 0)},
	} {
		got, e := Two(x.f, x.a, x.b)
		checkCell(t, "Two", got, e, x.want)
	}
}

func TestTwoTellsTheErrorNamedFirst(t *testing.T) {
	square := api.Cell{Dims: []int{2, 2}, Vals: []int64{1, 2, 3, 4}}
	for _, bad := range broken() {
		for _, code := range []int{glyph.Plus, glyph.Not, glyph.Slash, 0, 99} {
			for _, good := range []api.Cell{cell.Scalar(1), list(1, 2), square, bad} {
				got, e := Two(api.Fn{Code: code}, bad, good)
				checkFault(t, "Two, the left one may not be", got, e, api.ErrArg)
				got, e = Two(api.Fn{Code: code}, good, bad)
				checkFault(t, "Two, the right one may not be", got, e, api.ErrArg)
			}
		}
	}
	for _, x := range []struct {
		code int
		a, b api.Cell
		e    api.Errno
	}{
		{glyph.Not, list(1), list(1, 2), api.ErrValence}, {glyph.Not, list(1), square, api.ErrValence}, {glyph.Join, list(), list(), api.ErrValence},
		{glyph.Plus, list(1), square, api.ErrRank}, {glyph.Plus, list(1), list(1, 2), api.ErrLength}, {glyph.Plus, list(), list(1), api.ErrLength},
	} {
		got, e := Two(api.Fn{Code: x.code}, x.a, x.b)
		checkFault(t, "Two", got, e, x.e)
	}
}

func TestAxesHangOnAxesAlone(t *testing.T) {
	for _, da := range axes() {
		for _, db := range axes() {
			for _, code := range []int{glyph.Plus, glyph.Over, glyph.Left} {
				f := api.Fn{Code: code}
				some, e := Two(f, sample(da, 1), sample(db, 2))
				others, eToo := Two(f, cell.Zero(da), cell.Zero(db))
				if e != eToo || !slices.Equal(some.Dims, others.Dims) {
					t.Errorf("%v and %v: %v, %d and %v, %d", da, db, some.Dims, e, others.Dims, eToo)
				}
			}
		}
	}
}

// TestNumbersElsewhereChangeNothing: one number of a cell with axes is seen at
// its own place alone.
func TestNumbersElsewhereChangeNothing(t *testing.T) {
	f := api.Fn{Code: glyph.Minus}
	for _, d := range axes() {
		if len(d) == 0 {
			continue
		}
		for i := range shape.Size(d) {
			checkElsewhere(t, i, sample(d, 1), sample(d, 2), func(c, other api.Cell) (api.Cell, api.Errno) { return Two(f, c, other) })
			checkElsewhere(t, i, sample(d, 1), sample(d, 2), func(c, other api.Cell) (api.Cell, api.Errno) { return Two(f, other, c) })
			checkElsewhere(t, i, sample(d, 1), cell.Scalar(4), func(c, other api.Cell) (api.Cell, api.Errno) { return Two(f, c, other) })
			checkElsewhere(t, i, sample(d, 1), cell.Scalar(4), func(c, _ api.Cell) (api.Cell, api.Errno) { return One(glyph.Minus, c) })
		}
	}
}

func checkElsewhere(t *testing.T, i int, c, other api.Cell, do func(c, other api.Cell) (api.Cell, api.Errno)) {
	t.Helper()
	before, _ := do(c, other)
	c.Vals[i]++
	after, _ := do(c, other)
	for k := range before.Vals {
		if (before.Vals[k] != after.Vals[k]) != (k == i) {
			t.Errorf("axes %v, another number at %d: %d became %d at %d", c.Dims, i, before.Vals[k], after.Vals[k], k)
		}
	}
}

func TestArgumentsStayAndAnswersAreNew(t *testing.T) {
	for _, d := range axes() {
		a, b := sample(d, 1), sample(d, 2)
		one, _ := One(glyph.Plus, a)
		left, _ := Two(api.Fn{Code: glyph.Left}, a, b)
		right, _ := Two(api.Fn{Code: glyph.Right}, a, b)
		alone, _ := Two(api.Fn{Code: glyph.Right}, cell.Scalar(1), b)
		for _, got := range []api.Cell{one, left, right, alone} {
			for i := range got.Dims {
				got.Dims[i] = 77
			}
			for i := range got.Vals {
				got.Vals[i] = 77
			}
		}
		if !cell.Same(a, sample(d, 1)) || !cell.Same(b, sample(d, 2)) {
			t.Errorf("arguments of the axes %v became %v, %v", d, a, b)
		}
	}
}
