package product

import (
	"math"
	"slices"
	"testing"

	"riffle/api"
	"riffle/carve"
	"riffle/cell"
	"riffle/fold"
	"riffle/glyph"
	"riffle/scalar"
	"riffle/shape"
	"riffle/spread"
)

const least, greatest = math.MinInt64, math.MaxInt64

// axes are some that may be: all kinds of ranks, with noughts and ones.
func axes() [][]int {
	return [][]int{nil, {}, {0}, {1}, {2}, {3}, {5}, {8}, {9}, {32}, {64}, {1, 1}, {1, 2}, {2, 1}, {2, 3}, {3, 2}, {2, 2}, {2, 0}, {0, 2}, {0, 0}, {0, 64},
		{8, 8}, {64, 1}, {1, 64}, {64, 0}, {1, 1, 1}, {2, 2, 2}, {2, 3, 4}, {4, 3, 2}, {3, 1, 2}, {2, 0, 3}, {3, 2, 0}, {0, 3, 2},
		{0, 0, 0}, {0, 64, 64}, {64, 64, 0}, {64, 0, 64}, {0, 8, 9}, {8, 9, 0}, {0, 8, 8}, {8, 8, 0}, {4, 4, 4}}
}

// broken are cells that may not be.
func broken() []api.Cell {
	return []api.Cell{
		{}, {Dims: []int{}, Vals: []int64{}}, {Vals: []int64{1, 2}}, {Dims: []int{2}}, {Dims: []int{1}, Vals: []int64{1, 2}},
		{Dims: []int{2}, Vals: []int64{1, 2, 3}}, {Dims: []int{0}, Vals: []int64{1}}, {Dims: []int{2, 2}, Vals: []int64{1, 2, 3}},
		{Dims: []int{65}, Vals: make([]int64, 65)}, {Dims: []int{1, 1, 1, 1}, Vals: []int64{1}}, {Dims: []int{-1}}, {Dims: []int{-1, -1}, Vals: []int64{1}},
		{Dims: []int{0, 65}}, {Dims: []int{0, 0, 0, 0}}, {Dims: []int{math.MaxInt}}, {Dims: []int{math.MinInt}}, {Dims: []int{1 << 32, 1 << 32}},
	}
}

// sample is a cell of axes that may be, with small numbers and both ends.
func sample(dims []int, seed int64) api.Cell {
	c := cell.Zero(dims)
	for i := range c.Vals {
		c.Vals[i] = (int64(i*i)*7+seed)%11 - 5
		switch i {
		case 4:
			c.Vals[i] = least
		case 5:
			c.Vals[i] = greatest - seed
		}
	}
	return c
}

// fns are functions with a use with two arguments, changed about and not.
func fns() []api.Fn {
	var l []api.Fn
	for code := glyph.Plus; code <= glyph.Right; code++ {
		l = append(l, by(code), swapped(code))
	}
	return l
}

// unfit are functions without a use with two arguments.
func unfit() []api.Fn {
	var l []api.Fn
	for _, code := range []int{glyph.Not, glyph.Shape, glyph.Join, glyph.Slash, glyph.Dot, glyph.Then, 0, -1, glyph.Then + 1, math.MaxInt, math.MinInt} {
		l = append(l, by(code), swapped(code))
	}
	return l
}

// some are few enough to be put together in pairs, and unlike enough: they
// join or not, have a Unit or not, mind the order of their arguments or not.
func some() []api.Fn {
	return []api.Fn{by(glyph.Plus), by(glyph.Minus), swapped(glyph.Minus), by(glyph.Times), by(glyph.Max), swapped(glyph.Power), by(glyph.Less), by(glyph.Left), by(glyph.Right), swapped(glyph.Right)}
}

func by(code int) api.Fn { return api.Fn{Code: code} }

func swapped(code int) api.Fn { return api.Fn{Code: code, Swap: true} }

func turned(f api.Fn) api.Fn { return api.Fn{Code: f.Code, Swap: !f.Swap} }

func number(n int64) api.Cell { return api.Cell{Vals: []int64{n}} }

func list(l ...int64) api.Cell { return api.Cell{Dims: []int{len(l)}, Vals: l} }

func array(dims []int, l ...int64) api.Cell { return api.Cell{Dims: dims, Vals: l} }

// checkFault holds an answer beside an error against the zero value.
func checkFault(t *testing.T, what string, got api.Cell, e, want api.Errno) {
	t.Helper()
	if e != want || got.Dims != nil || got.Vals != nil {
		t.Errorf("%s: got %v, %d, want nothing, %d", what, got, e, want)
	}
}

func checkCell(t *testing.T, what string, got api.Cell, e api.Errno, want api.Cell) {
	t.Helper()
	if e != api.OK || !cell.Same(got, want) {
		t.Errorf("%s: got %v, %d, want %v", what, got, e, want)
	}
}

// checkAnswer holds an answer against a cell, or against an error.
func checkAnswer(t *testing.T, what string, got api.Cell, e api.Errno, want api.Cell, fault api.Errno) {
	t.Helper()
	if fault != api.OK {
		checkFault(t, what, got, e, fault)
		return
	}
	checkCell(t, what, got, e, want)
}

func TestOuterByHand(t *testing.T) {
	for _, x := range []struct {
		g          api.Fn
		a, b, want api.Cell
	}{
		{by(glyph.Times), list(1, 2), list(3, 4), array([]int{2, 2}, 3, 4, 6, 8)},
		{by(glyph.Minus), list(10, 20), list(1, 2, 3), array([]int{2, 3}, 9, 8, 7, 19, 18, 17)},
		{swapped(glyph.Minus), list(10, 20), list(1, 2, 3), array([]int{2, 3}, -9, -8, -7, -19, -18, -17)},
		{by(glyph.Left), list(1, 2), list(3, 4), array([]int{2, 2}, 1, 1, 2, 2)}, {by(glyph.Right), list(1, 2), list(3, 4), array([]int{2, 2}, 3, 4, 3, 4)},
		{by(glyph.Plus), number(5), number(7), number(12)}, {by(glyph.Minus), number(5), list(1, 2), list(4, 3)}, {by(glyph.Minus), list(1, 2), number(5), list(-4, -3)},
		{by(glyph.Minus), number(5), array([]int{2, 1}, 1, 2), array([]int{2, 1}, 4, 3)}, {by(glyph.Less), list(2), list(1, 2, 3), array([]int{1, 3}, 0, 0, 1)},
		{by(glyph.Plus), array([]int{2, 2}, 1, 2, 3, 4), list(10, 20), array([]int{2, 2, 2}, 11, 21, 12, 22, 13, 23, 14, 24)},
		{by(glyph.Plus), list(10, 20), array([]int{2, 2}, 1, 2, 3, 4), array([]int{2, 2, 2}, 11, 12, 13, 14, 21, 22, 23, 24)},
		{by(glyph.Plus), list(), list(1, 2), array([]int{0, 2})}, {by(glyph.Left), list(1, 2), list(), array([]int{2, 0})}, {by(glyph.Left), list(), list(), array([]int{0, 0})},
		{by(glyph.Plus), list(), number(1), list()}, {by(glyph.Plus), number(1), array([]int{64, 64, 0}), array([]int{64, 64, 0})},
		{by(glyph.Plus), array([]int{64, 0}), cell.Zero([]int{64}), array([]int{64, 0, 64})}, {by(glyph.Plus), cell.Zero([]int{64}), array([]int{64, 0}), array([]int{64, 64, 0})},
		{by(glyph.Plus), list(greatest), list(1), array([]int{1, 1}, least)}, {by(glyph.Plus), cell.Zero([]int{8}), cell.Zero([]int{8}), cell.Zero([]int{8, 8})},
	} {
		got, e := Outer(x.g, x.a, x.b)
		checkCell(t, "Outer", got, e, x.want)
	}
}

func TestOuterIsTooGreat(t *testing.T) {
	for _, x := range [][2][]int{
		{{8}, {9}}, {{9}, {8}}, {{64}, {2}}, {{64}, {64}}, {{2, 2}, {2, 2}}, {{1, 1}, {1, 1}}, {{1}, {1, 1, 1}}, {{1, 1, 1}, {1}}, {{0, 0}, {0, 0}}, {{0}, {1, 1, 1}},
		{{4, 4}, {5}}, {{1, 1, 1}, {1, 1, 1}}, {{64, 0, 64}, {0}},
	} {
		got, e := Outer(by(glyph.Left), cell.Zero(x[0]), cell.Zero(x[1]))
		checkFault(t, "Outer", got, e, api.ErrSize)
	}
}

// outerMeant tells what an Outer of cells that may be is to be.
func outerMeant(g api.Fn, a, b api.Cell) (api.Cell, api.Errno) {
	dims := append(slices.Clone(a.Dims), b.Dims...)
	if !shape.Right(dims) {
		return api.Cell{}, api.ErrSize
	}
	want := cell.Zero(dims)
	for i := range want.Vals {
		place := shape.Place(dims, i)
		left, _ := cell.At(a, place[:len(a.Dims)])
		right, _ := cell.At(b, place[len(a.Dims):])
		want.Vals[i], _ = scalar.Do(g, left, right)
	}
	return want, api.OK
}

func TestOuterPlaceByPlace(t *testing.T) {
	for _, g := range fns() {
		for _, p := range axes() {
			for _, q := range axes() {
				a, b := sample(p, 2), sample(q, 5)
				got, e := Outer(g, a, b)
				want, fault := outerMeant(g, a, b)
				checkAnswer(t, "Outer", got, e, want, fault)
			}
		}
	}
}

func TestInnerByHand(t *testing.T) {
	plus, minus, times := by(glyph.Plus), by(glyph.Minus), by(glyph.Times)
	left, right := by(glyph.Left), by(glyph.Right)
	block, cube := array([]int{2, 3}, 1, 2, 3, 4, 5, 6), array([]int{2, 2, 2}, 1, 2, 3, 4, 5, 6, 7, 8)
	tall := array([]int{3, 2}, 1, 10, 2, 20, 3, 30)
	for _, x := range []struct {
		f, g       api.Fn
		a, b, want api.Cell
	}{
		{plus, times, list(1, 2), list(3, 4), number(11)}, {plus, times, block, tall, array([]int{2, 2}, 14, 140, 32, 320)},
		{plus, times, tall, block, array([]int{3, 3}, 41, 52, 63, 82, 104, 126, 123, 156, 189)}, {plus, times, block, list(1, 10, 100), list(321, 654)},
		{plus, times, list(1, 10), block, list(41, 52, 63)}, {minus, plus, list(1, 2, 3), list(10, 20, 30), number(22)}, {swapped(glyph.Minus), plus, list(1, 2), list(10, 30), number(21)},
		{plus, minus, list(1, 2), list(10, 30), number(-37)}, {plus, swapped(glyph.Minus), list(1, 2), list(10, 30), number(37)},
		{plus, times, number(2), list(3, 4), number(14)}, {plus, times, list(3, 4), number(2), number(14)}, {plus, times, number(2), block, list(10, 14, 18)}, {plus, times, block, number(2), list(12, 30)},
		{plus, minus, number(10), list(1, 2, 3), number(24)}, {plus, minus, list(1, 2, 3), number(10), number(-24)}, {plus, times, number(6), number(7), number(42)}, {left, minus, number(6), number(7), number(-1)},
		{plus, times, cube, list(1, 10), array([]int{2, 2}, 21, 43, 65, 87)}, {plus, times, list(1, 10), cube, array([]int{2, 2}, 51, 62, 73, 84)},
		{left, left, block, tall, array([]int{2, 2}, 1, 1, 4, 4)}, {right, left, block, tall, array([]int{2, 2}, 3, 3, 6, 6)},
		{left, right, block, tall, array([]int{2, 2}, 1, 10, 1, 10)}, {right, right, block, tall, array([]int{2, 2}, 3, 30, 3, 30)},
		{plus, times, list(), list(), number(0)}, {times, plus, list(), list(), number(1)}, {by(glyph.Max), left, list(), number(1), number(least)}, {by(glyph.And), left, number(1), list(), number(-1)},
		{times, plus, array([]int{2, 0}), array([]int{0, 3}), array([]int{2, 3}, 1, 1, 1, 1, 1, 1)}, {times, plus, array([]int{2, 0}), list(), list(1, 1)}, {times, plus, number(4), array([]int{0, 3}), list(1, 1, 1)},
		{plus, times, array([]int{0, 3}), list(1, 2, 3), list()}, {left, times, array([]int{0, 3}), list(1, 2, 3), list()}, {left, times, list(1, 2), array([]int{2, 0}), list()},
		{plus, times, array([]int{64, 64, 0}), array([]int{0, 0}), array([]int{64, 64, 0})}, {plus, times, array([]int{0, 0}), array([]int{0, 64, 64}), array([]int{0, 64, 64})},
		{plus, times, array([]int{64, 0, 64}), cell.Zero([]int{64}), array([]int{64, 0})}, {plus, times, list(1), array([]int{1, 2}, 5, 6), list(5, 6)}, {plus, times, array([]int{2, 1}, 2, 3), array([]int{1, 2}, 5, 7), array([]int{2, 2}, 10, 14, 15, 21)},
		{plus, times, list(greatest, 1), list(1, 1), number(least)},
	} {
		got, e := Inner(x.f, x.g, x.a, x.b)
		checkCell(t, "Inner", got, e, x.want)
	}
}

func TestInnerErrors(t *testing.T) {
	plus, left, right := by(glyph.Plus), by(glyph.Left), by(glyph.Right)
	for _, x := range []struct {
		f    api.Fn
		a, b []int
		e    api.Errno
	}{
		{plus, []int{2}, []int{1}, api.ErrLength}, {plus, []int{1}, []int{2}, api.ErrLength}, {plus, []int{2, 3}, []int{2, 3}, api.ErrLength}, {plus, []int{0}, []int{1}, api.ErrLength},
		{left, []int{0}, []int{1}, api.ErrLength}, {left, []int{1}, []int{0}, api.ErrLength}, {left, []int{64, 64, 0}, []int{2, 0}, api.ErrLength}, {plus, []int{1, 1, 2}, []int{1, 2, 2}, api.ErrLength},
		{left, []int{0}, []int{0}, api.ErrDomain}, {right, []int{0}, nil, api.ErrDomain}, {left, nil, []int{0}, api.ErrDomain}, {right, []int{2, 0}, []int{0, 3}, api.ErrDomain},
		{swapped(glyph.Left), []int{0, 0}, []int{0}, api.ErrDomain}, {left, []int{64, 64, 0}, []int{0, 3}, api.ErrDomain}, {left, nil, []int{0, 64, 64}, api.ErrDomain}, {right, []int{1, 1, 0}, []int{0, 1, 1}, api.ErrDomain},
		{plus, []int{64, 64, 0}, []int{0, 3}, api.ErrSize}, {plus, []int{64, 64, 0}, nil, api.ErrSize}, {plus, nil, []int{0, 64, 64}, api.ErrSize}, {plus, []int{64, 64, 0}, []int{0}, api.ErrSize},
		{plus, []int{1, 1, 1}, []int{1, 1, 1}, api.ErrSize}, {left, []int{2, 2, 2}, []int{2, 2, 2}, api.ErrSize}, {plus, []int{0, 0, 0}, []int{0, 0, 0}, api.ErrSize}, {plus, []int{9, 1}, []int{1, 8}, api.ErrSize},
		{plus, []int{64, 1}, []int{1, 2}, api.ErrSize}, {plus, []int{8, 0}, []int{0, 9}, api.ErrSize},
	} {
		got, e := Inner(x.f, by(glyph.Times), cell.Zero(x.a), cell.Zero(x.b))
		checkFault(t, "Inner", got, e, x.e)
	}
}

func TestErrorsComeInOrder(t *testing.T) {
	plus := by(glyph.Plus)
	for _, bad := range broken() {
		for _, f := range append(unfit(), plus, by(glyph.Left)) {
			for _, other := range append(broken(), number(1), list(1, 2), list(), cell.Zero([]int{64})) {
				for _, pair := range [][2]api.Cell{{bad, other}, {other, bad}} {
					got, e := Outer(f, pair[0], pair[1])
					checkFault(t, "Outer", got, e, api.ErrArg)
					got, e = Inner(f, plus, pair[0], pair[1])
					checkFault(t, "Inner", got, e, api.ErrArg)
					got, e = Inner(plus, f, pair[0], pair[1])
					checkFault(t, "Inner", got, e, api.ErrArg)
				}
			}
		}
	}
	for _, f := range unfit() {
		for _, p := range axes() {
			for _, q := range axes() {
				a, b := sample(p, 1), sample(q, 1)
				got, e := Outer(f, a, b)
				checkFault(t, "Outer", got, e, api.ErrValence)
				for _, pair := range [][2]api.Fn{{f, plus}, {plus, f}, {f, f}, {by(glyph.Left), f}} {
					got, e = Inner(pair[0], pair[1], a, b)
					checkFault(t, "Inner", got, e, api.ErrValence)
				}
			}
		}
	}
}

// numberAt tells a cell's number at a place; of a cell without axes the only
// one, wherever that is.
func numberAt(c api.Cell, place ...int) int64 {
	if len(c.Dims) == 0 {
		return c.Vals[0]
	}
	n, _ := cell.At(c, place)
	return n
}

// innerMeant tells what an Inner of cells that may be is to be.
func innerMeant(f, g api.Fn, a, b api.Cell) (api.Cell, api.Errno) {
	length := 1
	ahead, behind := slices.Clone(a.Dims), slices.Clone(b.Dims)
	if len(b.Dims) > 0 {
		length, behind = b.Dims[0], behind[1:]
	}
	if last := len(a.Dims) - 1; last >= 0 {
		if len(b.Dims) > 0 && a.Dims[last] != length {
			return api.Cell{}, api.ErrLength
		}
		length, ahead = a.Dims[last], ahead[:last]
	}
	if _, starts := scalar.Unit(f.Code); length == 0 && !starts {
		return api.Cell{}, api.ErrDomain
	}
	dims := slices.Concat(ahead, behind)
	if !shape.Right(dims) {
		return api.Cell{}, api.ErrSize
	}
	want := cell.Zero(dims)
	for i := range want.Vals {
		place := shape.Place(dims, i)
		p, q := place[:len(ahead)], place[len(ahead):]
		l := make([]int64, length)
		for j := range l {
			l[j], _ = scalar.Do(g, numberAt(a, slices.Concat(p, []int{j})...), numberAt(b, slices.Concat([]int{j}, q)...))
		}
		want.Vals[i], _ = fold.Row(f, l)
	}
	return want, api.OK
}

func TestInnerPlaceByPlace(t *testing.T) {
	for _, f := range some() {
		for _, g := range some() {
			for _, p := range axes() {
				for _, q := range axes() {
					a, b := sample(p, 2), sample(q, 5)
					got, e := Inner(f, g, a, b)
					want, fault := innerMeant(f, g, a, b)
					checkAnswer(t, "Inner", got, e, want, fault)
				}
			}
		}
	}
}

func TestInnerOfAllFunctions(t *testing.T) {
	pairs := [][2][]int{{nil, nil}, {{3}, nil}, {nil, {3, 2}}, {{2, 3}, {3, 2}}, {{64}, {64}}, {{2, 0}, {0, 2}}}
	for _, f := range fns() {
		for _, g := range fns() {
			for _, d := range pairs {
				a, b := sample(d[0], 2), sample(d[1], 5)
				got, e := Inner(f, g, a, b)
				want, fault := innerMeant(f, g, a, b)
				checkAnswer(t, "Inner", got, e, want, fault)
			}
		}
	}
}

func TestAnOutersPartIsWhatItsNumberMakesOfB(t *testing.T) {
	for _, g := range some() {
		for _, p := range axes() {
			for _, q := range axes() {
				a, b := sample(p, 3), sample(q, 7)
				outer, e := Outer(g, a, b)
				if e != api.OK {
					continue
				}
				for i, n := range a.Vals {
					want, e := spread.Two(g, number(n), b)
					part := array(b.Dims, outer.Vals[i*len(b.Vals):(i+1)*len(b.Vals)]...)
					checkCell(t, "an Outer's part", part, e, want)
				}
			}
		}
	}
}

func TestAnInnerOfVectorsIsARow(t *testing.T) {
	for _, f := range some() {
		for _, g := range some() {
			for length := 1; length <= api.MaxSize; length++ {
				a, b := sample([]int{length}, 1), sample([]int{length}, 8)
				both, _ := spread.Two(g, a, b)
				want, _ := fold.Row(f, both.Vals)
				got, e := Inner(f, g, a, b)
				checkCell(t, "an Inner of vectors", got, e, number(want))
			}
		}
	}
}

func TestAnInnerTurnedIsTheOneOfBothTurned(t *testing.T) {
	for _, f := range some() {
		for _, g := range some() {
			for _, p := range axes() {
				for _, q := range axes() {
					a, b := sample(p, 4), sample(q, 6)
					inner, fault := Inner(f, g, a, b)
					want, _ := carve.Turn(inner)
					left, _ := carve.Turn(b)
					right, _ := carve.Turn(a)
					got, e := Inner(f, turned(g), left, right)
					checkAnswer(t, "an Inner of both Turned", got, e, want, fault)
				}
			}
		}
	}
}

func TestArgumentsStayAndAnswersAreNew(t *testing.T) {
	for _, p := range axes() {
		for _, q := range axes() {
			a, b := sample(p, 1), sample(q, 2)
			outer, _ := Outer(by(glyph.Right), a, b)
			inner, _ := Inner(by(glyph.Plus), by(glyph.Left), a, b)
			for _, got := range []api.Cell{outer, inner} {
				for i := range got.Dims {
					got.Dims[i] = 77
				}
				for i := range got.Vals {
					got.Vals[i] = 77
				}
			}
			checkCell(t, "what was handed in", a, api.OK, sample(p, 1))
			checkCell(t, "what was handed in", b, api.OK, sample(q, 2))
		}
	}
}
