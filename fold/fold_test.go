package fold

import (
	"math"
	"slices"
	"testing"

	"riffle/api"
	"riffle/cell"
	"riffle/glyph"
	"riffle/scalar"
	"riffle/shape"
)

const least, greatest = math.MinInt64, math.MaxInt64

// axes are some that may be: all kinds of ranks, with noughts and ones.
func axes() [][]int {
	return [][]int{nil, {}, {0}, {1}, {2}, {3}, {5}, {64}, {1, 1}, {1, 2}, {2, 1}, {2, 3}, {3, 2}, {2, 0}, {0, 2}, {0, 0}, {0, 64},
		{8, 8}, {64, 1}, {1, 64}, {64, 0}, {1, 1, 1}, {2, 3, 4}, {4, 3, 2}, {2, 3, 5}, {1, 2, 3}, {3, 1, 2}, {2, 0, 3}, {3, 2, 0}, {0, 3, 2},
		{0, 64, 64}, {64, 64, 0}, {64, 0, 64}, {0, 8, 9}, {8, 9, 0}, {0, 8, 8}, {8, 8, 0}, {4, 4, 4}, {4, 4, 1}}
}

// broken are cells that may not be.
func broken() []api.Cell {
	return []api.Cell{
		{}, {Dims: []int{}, Vals: []int64{}}, {Vals: []int64{1, 2}}, {Dims: []int{2}}, {Dims: []int{1}, Vals: []int64{1, 2}},
		{Dims: []int{2}, Vals: []int64{1, 2, 3}}, {Dims: []int{0}, Vals: []int64{1}}, {Dims: []int{2, 2}, Vals: []int64{1, 2, 3}},
		{Dims: []int{65}, Vals: make([]int64, 65)}, {Dims: []int{1, 1, 1, 1}, Vals: []int64{1}}, {Dims: []int{-1}}, {Dims: []int{-1, -1}, Vals: []int64{1}},
		{Dims: []int{0, 65}}, {Dims: []int{0, 0, 0, 0}}, {Dims: []int{math.MaxInt}}, {Dims: []int{math.MinInt}}, {Dims: []int{1 << 32, 1 << 32}},
	}
}

// sample is a cell of axes that may be, with small numbers and both ends.
func sample(dims []int, seed int64) api.Cell {
	c := cell.Zero(dims)
	for i := range c.Vals {
		c.Vals[i] = (int64(i*i)*7+seed)%11 - 5
		switch i {
		case 4:
			c.Vals[i] = least
		case 5:
			c.Vals[i] = greatest - seed
		}
	}
	return c
}

// fns are functions of all signs, and of some codes that there aren't, with
// their arguments changed about and not.
func fns() []api.Fn {
	codes := []int{0, -1, -19, glyph.Then + 1, math.MaxInt, math.MinInt}
	for code := glyph.Plus; code <= glyph.Then; code++ {
		codes = append(codes, code)
	}
	var l []api.Fn
	for _, code := range codes {
		l = append(l, api.Fn{Code: code}, api.Fn{Code: code, Swap: true})
	}
	return l
}

func by(code int) api.Fn { return api.Fn{Code: code} }

func swapped(code int) api.Fn { return api.Fn{Code: code, Swap: true} }

func number(n int64) api.Cell { return api.Cell{Vals: []int64{n}} }

func list(l ...int64) api.Cell { return api.Cell{Dims: []int{len(l)}, Vals: l} }

func array(dims []int, l ...int64) api.Cell { return api.Cell{Dims: dims, Vals: l} }

// checkFault holds an answer beside an error against the zero value.
func checkFault(t *testing.T, what string, got api.Cell, e, want api.Errno) {
	t.Helper()
	if e != want || got.Dims != nil || got.Vals != nil {
		t.Errorf("%s: got %v, %d, want nothing, %d", what, got, e, want)
	}
}

func checkCell(t *testing.T, what string, got api.Cell, e api.Errno, want api.Cell) {
	t.Helper()
	if e != api.OK || !cell.Same(got, want) {
		t.Errorf("%s: got %v, %d, want %v", what, got, e, want)
	}
}

func TestRowByHand(t *testing.T) {
	for _, x := range []struct {
		f    api.Fn
		l    []int64
		want int64
	}{
		{by(glyph.Minus), []int64{1, 2, 3}, 2}, {by(glyph.Minus), []int64{1, 2, 3, 4}, -2}, {by(glyph.Minus), []int64{5}, 5},
		{swapped(glyph.Minus), []int64{1, 2, 3}, 0}, {swapped(glyph.Minus), []int64{10, 2, 3}, -9}, {swapped(glyph.Minus), []int64{4, 9}, 5},
		{by(glyph.Plus), []int64{1, 2, 3, 4}, 10}, {by(glyph.Plus), []int64{greatest, 1}, least}, {by(glyph.Times), []int64{2, 3, 7}, 42},
		{by(glyph.Power), []int64{2, 3, 2}, 512}, {swapped(glyph.Power), []int64{2, 3, 2}, 64}, {by(glyph.Over), []int64{8, 6, 3}, 4}, {by(glyph.Over), []int64{7, 0}, 0},
		{by(glyph.Less), []int64{3, 1, 2}, 0}, {by(glyph.Less), []int64{0, 1, 2}, 1}, {by(glyph.Equal), []int64{1, 5, 5}, 1}, {by(glyph.Rest), []int64{4, 7, 16}, 2},
		{by(glyph.Max), []int64{3, 9, 4}, 9}, {by(glyph.Min), []int64{3, 9, 4}, 3}, {by(glyph.And), []int64{7, 6, 12}, 4}, {by(glyph.Or), []int64{1, 2, 8}, 11},
		{by(glyph.Left), []int64{3, 9, 4}, 3}, {by(glyph.Right), []int64{3, 9, 4}, 4}, {swapped(glyph.Left), []int64{3, 9, 4}, 4}, {swapped(glyph.Right), []int64{3, 9, 4}, 3},
		{by(glyph.Left), []int64{6}, 6}, {by(glyph.Right), []int64{6}, 6}, {by(glyph.Max), []int64{least}, least}, {by(glyph.Unlike), []int64{5}, 5},
		{by(glyph.Plus), nil, 0}, {by(glyph.Plus), []int64{}, 0}, {by(glyph.Minus), nil, 0}, {by(glyph.Times), nil, 1}, {by(glyph.Over), nil, 1}, {by(glyph.Power), nil, 1},
		{by(glyph.Rest), nil, 0}, {by(glyph.Max), nil, least}, {by(glyph.Min), nil, greatest}, {by(glyph.Equal), nil, 1}, {by(glyph.Unlike), nil, 0},
		{by(glyph.Less), nil, 0}, {by(glyph.AtMost), nil, 1}, {by(glyph.More), nil, 0}, {by(glyph.AtLeast), nil, 1}, {by(glyph.And), nil, -1}, {by(glyph.Or), nil, 0},
		{swapped(glyph.Minus), nil, 0}, {swapped(glyph.And), nil, -1},
	} {
		if got, ok := Row(x.f, x.l); got != x.want || !ok {
			t.Errorf("Row(%v, %v): got %d, %t, want %d", x.f, x.l, got, ok, x.want)
		}
	}
}

func TestRowOfNothingToTell(t *testing.T) {
	lists := [][]int64{nil, {}, {7}, {1, 2, 3}}
	for _, f := range fns() {
		_, starts := scalar.Unit(f.Code)
		for _, l := range lists {
			got, ok := Row(f, l)
			if want := scalar.Has(f.Code, 2) && (starts || len(l) > 0); ok != want || (!ok && got != 0) {
				t.Errorf("Row(%v, %v): got %d, %t, want %t", f, l, got, ok, want)
			}
		}
	}
	for _, code := range []int{glyph.Left, glyph.Right, glyph.Not, glyph.Join, 0} {
		if got, ok := Row(by(code), nil); got != 0 || ok {
			t.Errorf("Row(%d) of no numbers: got %d, %t", code, got, ok)
		}
	}
	if got, ok := Row(by(glyph.Not), []int64{5}); got != 0 || ok {
		t.Errorf("Row of Not and one number: got %d, %t", got, ok)
	}
}

// rowMeant tells what numbers are to come to: the first one with all behind it.
func rowMeant(f api.Fn, l []int64) int64 {
	switch len(l) {
	case 0:
		n, _ := scalar.Unit(f.Code)
		return n
	case 1:
		return l[0]
	}
	n, _ := scalar.Do(f, l[0], rowMeant(f, l[1:]))
	return n
}

func TestRowIsTheFirstWithAllBehind(t *testing.T) {
	for _, f := range fns() {
		if !scalar.Has(f.Code, 2) {
			continue
		}
		for length := 1; length <= 64; length++ {
			l := sample([]int{length}, 3).Vals
			if got, ok := Row(f, l); got != rowMeant(f, l) || !ok {
				t.Errorf("Row(%v, %v): got %d, %t, want %d", f, l, got, ok, rowMeant(f, l))
			}
		}
	}
}

func TestRowOfManyNumbers(t *testing.T) {
	l := slices.Repeat([]int64{1, 2}, 50000)
	if got, ok := Row(by(glyph.Minus), l); got != -50000 || !ok {
		t.Errorf("Row of many: got %d, %t", got, ok)
	}
	if got, ok := Row(by(glyph.Plus), l); got != 150000 || !ok {
		t.Errorf("Row of many: got %d, %t", got, ok)
	}
}

func TestReduceByHand(t *testing.T) {
	block := array([]int{2, 3}, 1, 2, 3, 4, 5, 6)
	cube := array([]int{2, 2, 2}, 1, 2, 3, 4, 5, 6, 7, 8)
	for _, x := range []struct {
		f     api.Fn
		c     api.Cell
		first bool
		want  api.Cell
	}{
		{by(glyph.Plus), block, false, array([]int{2}, 6, 15)}, {by(glyph.Plus), block, true, array([]int{3}, 5, 7, 9)},
		{by(glyph.Minus), block, false, array([]int{2}, 2, 5)}, {by(glyph.Minus), block, true, array([]int{3}, -3, -3, -3)},
		{swapped(glyph.Minus), block, false, array([]int{2}, 0, -3)}, {swapped(glyph.Minus), block, true, array([]int{3}, 3, 3, 3)},
		{by(glyph.Plus), cube, false, array([]int{2, 2}, 3, 7, 11, 15)}, {by(glyph.Plus), cube, true, array([]int{2, 2}, 6, 8, 10, 12)},
		{by(glyph.Max), list(3, 9, 4), false, number(9)}, {by(glyph.Left), list(3, 9, 4), true, number(3)},
		{by(glyph.Plus), number(7), false, number(7)}, {by(glyph.Left), number(7), true, number(7)},
		{by(glyph.Plus), list(), false, number(0)}, {by(glyph.Max), list(), true, number(least)},
		{by(glyph.Times), array([]int{2, 0}), false, list(1, 1)}, {by(glyph.And), array([]int{0, 3}), true, list(-1, -1, -1)},
		{by(glyph.Times), array([]int{2, 0}), true, list()}, {by(glyph.And), array([]int{0, 3}), false, list()},
		{by(glyph.Left), array([]int{2, 0}), true, list()}, {by(glyph.Right), array([]int{0, 3}), false, list()},
		{by(glyph.Min), array([]int{1, 2, 0}), false, array([]int{1, 2}, greatest, greatest)}, {by(glyph.Plus), array([]int{0, 0}), false, list()},
		{by(glyph.Plus), array([]int{64, 0, 64}), false, array([]int{64, 0})}, {by(glyph.Plus), array([]int{64, 0, 64}), true, array([]int{0, 64})},
		{by(glyph.Plus), array([]int{64, 64, 0}), true, array([]int{64, 0})}, {by(glyph.Plus), array([]int{0, 64, 64}), false, array([]int{0, 64})},
		{by(glyph.Plus), array([]int{8, 8, 0}), false, cell.Zero([]int{8, 8})}, {by(glyph.Plus), array([]int{0, 8, 8}), true, cell.Zero([]int{8, 8})},
	} {
		got, e := Reduce(x.f, x.c, x.first)
		checkCell(t, "Reduce", got, e, x.want)
	}
}

func TestReduceErrors(t *testing.T) {
	for _, x := range []struct {
		f     api.Fn
		dims  []int
		first bool
		e     api.Errno
	}{
		{by(glyph.Not), []int{2}, false, api.ErrValence}, {by(glyph.Not), nil, false, api.ErrValence}, {by(glyph.Not), []int{0}, true, api.ErrValence},
		{by(glyph.Not), []int{64, 64, 0}, false, api.ErrValence}, {by(glyph.Join), []int{2}, false, api.ErrValence}, {by(0), nil, true, api.ErrValence},
		{by(glyph.Left), []int{0}, false, api.ErrDomain}, {by(glyph.Right), []int{0}, true, api.ErrDomain}, {swapped(glyph.Left), []int{2, 0}, false, api.ErrDomain},
		{by(glyph.Right), []int{0, 2}, true, api.ErrDomain}, {by(glyph.Left), []int{64, 64, 0}, false, api.ErrDomain}, {by(glyph.Left), []int{0, 64, 64}, true, api.ErrDomain},
		{by(glyph.Left), []int{0, 0}, false, api.ErrDomain},
		{by(glyph.Plus), []int{64, 64, 0}, false, api.ErrSize}, {by(glyph.Plus), []int{0, 64, 64}, true, api.ErrSize}, {by(glyph.Max), []int{8, 9, 0}, false, api.ErrSize},
		{by(glyph.Max), []int{0, 8, 9}, true, api.ErrSize},
	} {
		got, e := Reduce(x.f, cell.Zero(x.dims), x.first)
		checkFault(t, "Reduce", got, e, x.e)
	}
}

func TestScanByHand(t *testing.T) {
	block := array([]int{2, 3}, 1, 2, 3, 4, 5, 6)
	cube := array([]int{2, 2, 2}, 1, 2, 3, 4, 5, 6, 7, 8)
	for _, x := range []struct {
		f     api.Fn
		c     api.Cell
		first bool
		want  api.Cell
	}{
		{by(glyph.Minus), list(1, 2, 3), false, list(1, -1, 2)}, {by(glyph.Minus), list(1, 2, 3), true, list(1, -1, 2)},
		{swapped(glyph.Minus), list(1, 2, 4), false, list(1, 1, 1)}, {by(glyph.Power), list(2, 3, 2), false, list(2, 8, 512)},
		{by(glyph.Plus), block, false, array([]int{2, 3}, 1, 3, 6, 4, 9, 15)}, {by(glyph.Plus), block, true, array([]int{2, 3}, 1, 2, 3, 5, 7, 9)},
		{by(glyph.Plus), cube, false, array([]int{2, 2, 2}, 1, 3, 3, 7, 5, 11, 7, 15)}, {by(glyph.Plus), cube, true, array([]int{2, 2, 2}, 1, 2, 3, 4, 6, 8, 10, 12)},
		{by(glyph.Left), list(3, 9, 4), false, list(3, 3, 3)}, {by(glyph.Right), list(3, 9, 4), false, list(3, 9, 4)}, {by(glyph.Max), list(3, 9, 4), false, list(3, 9, 9)},
		{by(glyph.Plus), number(7), false, number(7)}, {by(glyph.Left), number(7), true, number(7)},
		{by(glyph.Plus), list(), false, list()}, {by(glyph.Left), list(), false, list()}, {by(glyph.Right), array([]int{0, 2}), true, array([]int{0, 2})},
		{by(glyph.Left), array([]int{2, 0}), false, array([]int{2, 0})}, {by(glyph.Plus), array([]int{64, 64, 0}), false, array([]int{64, 64, 0})},
		{by(glyph.Plus), array([]int{64, 64, 0}), true, array([]int{64, 64, 0})}, {by(glyph.Left), array([]int{0, 64, 64}), true, array([]int{0, 64, 64})},
	} {
		got, e := Scan(x.f, x.c, x.first)
		checkCell(t, "Scan", got, e, x.want)
	}
}

func TestErrorsComeInOrder(t *testing.T) {
	for _, f := range fns() {
		for _, first := range []bool{false, true} {
			for _, bad := range broken() {
				got, e := Reduce(f, bad, first)
				checkFault(t, "Reduce", got, e, api.ErrArg)
				got, e = Scan(f, bad, first)
				checkFault(t, "Scan", got, e, api.ErrArg)
			}
			for _, d := range axes() {
				if !scalar.Has(f.Code, 2) {
					got, e := Reduce(f, sample(d, 1), first)
					checkFault(t, "Reduce", got, e, api.ErrValence)
					got, e = Scan(f, sample(d, 1), first)
					checkFault(t, "Scan", got, e, api.ErrValence)
				}
			}
		}
	}
}

// numbersAlong tells the numbers along an axis at a place, up to one of them,
// whatever the place's own number there is.
func numbersAlong(c api.Cell, place []int, axis, count int) []int64 {
	var l []int64
	for i := range count {
		n, _ := cell.At(c, shape.With(place, axis, i))
		l = append(l, n)
	}
	return l
}

func axisOf(dims []int, first bool) int {
	if first {
		return 0
	}
	return len(dims) - 1
}

// reduceMeant tells what a Reduce of a cell with axes is to be.
func reduceMeant(f api.Fn, c api.Cell, axis int) (api.Cell, api.Errno) {
	others := slices.Delete(slices.Clone(c.Dims), axis, axis+1)
	if _, starts := scalar.Unit(f.Code); c.Dims[axis] == 0 && !starts {
		return api.Cell{}, api.ErrDomain
	}
	if !shape.Right(others) {
		return api.Cell{}, api.ErrSize
	}
	want := cell.Zero(others)
	for i := range want.Vals {
		place := slices.Insert(shape.Place(others, i), axis, 0)
		want.Vals[i] = rowMeant(f, numbersAlong(c, place, axis, c.Dims[axis]))
	}
	return want, api.OK
}

func TestReduceAndScanPlaceByPlace(t *testing.T) {
	for _, f := range fns() {
		if !scalar.Has(f.Code, 2) {
			continue
		}
		for _, d := range axes() {
			for _, first := range []bool{false, true} {
				if len(d) > 0 {
					checkPlaces(t, f, sample(d, 2), first)
					continue
				}
				got, e := Reduce(f, sample(d, 2), first)
				checkCell(t, "Reduce without axes", got, e, sample(d, 2))
				got, e = Scan(f, sample(d, 2), first)
				checkCell(t, "Scan without axes", got, e, sample(d, 2))
			}
		}
	}
}

func checkPlaces(t *testing.T, f api.Fn, c api.Cell, first bool) {
	t.Helper()
	axis := axisOf(c.Dims, first)
	got, e := Reduce(f, c, first)
	want, fault := reduceMeant(f, c, axis)
	if fault != api.OK {
		checkFault(t, "Reduce", got, e, fault)
	} else {
		checkCell(t, "Reduce", got, e, want)
	}
	scan := cell.Zero(c.Dims)
	for i := range scan.Vals {
		place := shape.Place(c.Dims, i)
		scan.Vals[i] = rowMeant(f, numbersAlong(c, place, axis, place[axis]+1))
	}
	got, e = Scan(f, c, first)
	checkCell(t, "Scan", got, e, scan)
}

func TestTheLastPartOfAScanIsTheReduce(t *testing.T) {
	for _, f := range fns() {
		for _, d := range axes() {
			for _, first := range []bool{false, true} {
				if !scalar.Has(f.Code, 2) || shape.Size(d) == 0 || len(d) == 0 {
					continue
				}
				axis := axisOf(d, first)
				scanned, _ := Scan(f, sample(d, 6), first)
				reduced, e := Reduce(f, sample(d, 6), first)
				last := cell.Zero(slices.Delete(slices.Clone(d), axis, axis+1))
				for i := range last.Vals {
					last.Vals[i], _ = cell.At(scanned, slices.Insert(shape.Place(last.Dims, i), axis, d[axis]-1))
				}
				checkCell(t, "the last part", reduced, e, last)
			}
		}
	}
}

func TestAScanOfOneThatJoinsGoesOnFromThePartAhead(t *testing.T) {
	for _, f := range fns() {
		for _, d := range axes() {
			for _, first := range []bool{false, true} {
				if scalar.Joins(f.Code) && len(d) > 0 {
					checkGoesOn(t, f, sample(d, 4), axisOf(d, first), first)
				}
			}
		}
	}
}

func checkGoesOn(t *testing.T, f api.Fn, c api.Cell, axis int, first bool) {
	t.Helper()
	scanned, e := Scan(f, c, first)
	want := cell.Zero(c.Dims)
	for i := range want.Vals {
		place := shape.Place(c.Dims, i)
		if place[axis] == 0 {
			want.Vals[i] = c.Vals[i]
			continue
		}
		ahead, _ := cell.At(scanned, shape.With(place, axis, place[axis]-1))
		want.Vals[i], _ = scalar.Do(f, ahead, c.Vals[i])
	}
	checkCell(t, "Scan", scanned, e, want)
}

func TestArgumentsStayAndAnswersAreNew(t *testing.T) {
	for _, d := range axes() {
		for _, first := range []bool{false, true} {
			c := sample(d, 1)
			reduced, _ := Reduce(by(glyph.Plus), c, first)
			scanned, _ := Scan(by(glyph.Right), c, first)
			for _, got := range []api.Cell{reduced, scanned} {
				for i := range got.Dims {
					got.Dims[i] = 77
				}
				for i := range got.Vals {
					got.Vals[i] = 77
				}
			}
			checkCell(t, "what was handed in", c, api.OK, sample(d, 1))
		}
	}
	l := []int64{3, 1, 2}
	Row(by(glyph.Minus), l)
	if !slices.Equal(l, []int64{3, 1, 2}) {
		t.Errorf("Row changed its numbers to %v", l)
	}
}
