package carve

import (
	"math"
	"math/big"
	"slices"
	"testing"

	"riffle/api"
	"riffle/cell"
	"riffle/mold"
	"riffle/shape"
)

const least, greatest = math.MinInt64, math.MaxInt64

// axes are some that may be: all kinds of ranks, with noughts and ones.
func axes() [][]int {
	return [][]int{nil, {}, {0}, {1}, {2}, {3}, {5}, {63}, {64}, {1, 1}, {1, 2}, {2, 1}, {2, 3}, {3, 2}, {2, 0}, {0, 2}, {0, 0}, {0, 64},
		{8, 8}, {64, 1}, {1, 64}, {64, 0}, {1, 1, 1}, {2, 3, 4}, {4, 3, 2}, {2, 3, 5}, {1, 2, 3}, {3, 1, 2}, {2, 0, 3}, {3, 2, 0}, {0, 3, 2},
		{0, 64, 64}, {64, 64, 0}, {64, 0, 64}, {4, 4, 4}, {4, 4, 1}}
}

// broken are cells that may not be.
func broken() []api.Cell {
	return []api.Cell{
		{}, {Dims: []int{}, Vals: []int64{}}, {Vals: []int64{1, 2}}, {Dims: []int{2}}, {Dims: []int{1}, Vals: []int64{1, 2}},
		{Dims: []int{2}, Vals: []int64{1, 2, 3}}, {Dims: []int{0}, Vals: []int64{1}}, {Dims: []int{2, 2}, Vals: []int64{1, 2, 3}},
		{Dims: []int{65}, Vals: make([]int64, 65)}, {Dims: []int{1, 1, 1, 1}, Vals: []int64{1}}, {Dims: []int{-1}}, {Dims: []int{-1, -1}, Vals: []int64{1}},
		{Dims: []int{0, 65}}, {Dims: []int{0, 0, 0, 0}}, {Dims: []int{math.MaxInt}}, {Dims: []int{math.MinInt}}, {Dims: []int{1 << 32, 1 << 32}},
	}
}

// sample is a cell of axes that may be, whose numbers are all unlike, and none
// of which is 0.
func sample(dims []int) api.Cell {
	c := cell.Zero(dims)
	for i := range c.Vals {
		c.Vals[i] = 100 + int64(i)
	}
	return c
}

func number(n int64) api.Cell { return api.Cell{Vals: []int64{n}} }

func list(l ...int64) api.Cell { return api.Cell{Dims: []int{len(l)}, Vals: l} }

func array(dims []int, l ...int64) api.Cell { return api.Cell{Dims: dims, Vals: l} }

// checkFault holds an answer beside an error against the zero value.
func checkFault(t *testing.T, what string, got api.Cell, e, want api.Errno) {
	t.Helper()
	if e != want || got.Dims != nil || got.Vals != nil {
		t.Errorf("%s: got %v, %d, want nothing, %d", what, got, e, want)
	}
}

func checkCell(t *testing.T, what string, got api.Cell, e api.Errno, want api.Cell) {
	t.Helper()
	if e != api.OK || !cell.Same(got, want) {
		t.Errorf("%s: got %v, %d, want %v", what, got, e, want)
	}
}

// must tells a cell that was told beside no error.
func must(t *testing.T, c api.Cell, e api.Errno) api.Cell {
	t.Helper()
	if e != api.OK {
		t.Fatalf("error %d", e)
	}
	return c
}

// meant tells the cell of these axes whose number at each place is what at
// tells of it.
func meant(dims []int, at func(place []int) int64) api.Cell {
	c := cell.Zero(dims)
	for i := range c.Vals {
		c.Vals[i] = at(shape.Place(dims, i))
	}
	return c
}

// axisOf tells the axis of Flip and Roll, where there is one.
func axisOf(dims []int, first bool) int {
	if first {
		return 0
	}
	return len(dims) - 1
}

// ones are calls of one cell, twos such of two.
func ones() []func(c api.Cell) (api.Cell, api.Errno) {
	return []func(c api.Cell) (api.Cell, api.Errno){Turn,
		func(c api.Cell) (api.Cell, api.Errno) { return Flip(c, false) },
		func(c api.Cell) (api.Cell, api.Errno) { return Flip(c, true) }}
}

func twos() []func(n, c api.Cell) (api.Cell, api.Errno) {
	return []func(n, c api.Cell) (api.Cell, api.Errno){Permute, Take, Drop,
		func(n, c api.Cell) (api.Cell, api.Errno) { return Roll(n, c, false) },
		func(n, c api.Cell) (api.Cell, api.Errno) { return Roll(n, c, true) }}
}

func TestCellsThatMayNotBeComeFirst(t *testing.T) {
	others := []api.Cell{number(2), number(greatest), list(), list(1, 0), list(-1, 99), list(1, 1, 1, 1), array([]int{2, 2}, 1, 2, 3, -4), {Dims: []int{64, 64, 0}}}
	for _, bad := range broken() {
		for _, do := range ones() {
			got, e := do(bad)
			checkFault(t, "one", got, e, api.ErrArg)
		}
		for _, do := range twos() {
			for _, other := range append(others, bad) {
				got, e := do(bad, other)
				checkFault(t, "the left one", got, e, api.ErrArg)
				got, e = do(other, bad)
				checkFault(t, "the right one", got, e, api.ErrArg)
			}
		}
	}
}

func TestFlipByHand(t *testing.T) {
	block := array([]int{2, 3}, 1, 2, 3, 4, 5, 6)
	cube := array([]int{2, 2, 2}, 1, 2, 3, 4, 5, 6, 7, 8)
	for _, x := range []struct {
		c     api.Cell
		first bool
		want  api.Cell
	}{
		{number(7), false, number(7)}, {number(7), true, number(7)},
		{list(), false, list()}, {list(), true, list()},
		{list(1, 2, 3), false, list(3, 2, 1)}, {list(1, 2, 3), true, list(3, 2, 1)},
		{block, false, array([]int{2, 3}, 3, 2, 1, 6, 5, 4)}, {block, true, array([]int{2, 3}, 4, 5, 6, 1, 2, 3)},
		{cube, false, array([]int{2, 2, 2}, 2, 1, 4, 3, 6, 5, 8, 7)}, {cube, true, array([]int{2, 2, 2}, 5, 6, 7, 8, 1, 2, 3, 4)},
		{array([]int{64, 64, 0}), false, array([]int{64, 64, 0})}, {array([]int{64, 64, 0}), true, array([]int{64, 64, 0})},
		{array([]int{0, 3}), true, array([]int{0, 3})}, {array([]int{0, 3}), false, array([]int{0, 3})},
	} {
		got, e := Flip(x.c, x.first)
		checkCell(t, "Flip", got, e, x.want)
	}
}

func TestFlipPlaceByPlace(t *testing.T) {
	for _, d := range axes() {
		for _, first := range []bool{false, true} {
			c := sample(d)
			want := meant(d, func(place []int) int64 {
				if len(d) > 0 {
					axis := axisOf(d, first)
					place[axis] = d[axis] - 1 - place[axis]
				}
				n, _ := cell.At(c, place)
				return n
			})
			got, e := Flip(c, first)
			checkCell(t, "Flip", got, e, want)
		}
	}
}

func TestRollByHand(t *testing.T) {
	block := array([]int{2, 3}, 1, 2, 3, 4, 5, 6)
	for _, x := range []struct {
		n, c  api.Cell
		first bool
		want  api.Cell
	}{
		{number(1), list(1, 2, 3), false, list(2, 3, 1)}, {list(1), list(1, 2, 3), false, list(2, 3, 1)},
		{array([]int{1, 1, 1}, 1), list(1, 2, 3), true, list(2, 3, 1)},
		{number(-1), list(1, 2, 3), false, list(3, 1, 2)}, {number(0), list(1, 2, 3), false, list(1, 2, 3)},
		{number(3), list(1, 2, 3), false, list(1, 2, 3)}, {number(-3), list(1, 2, 3), false, list(1, 2, 3)},
		{number(7), list(1, 2, 3), false, list(2, 3, 1)}, {number(-7), list(1, 2, 3), false, list(3, 1, 2)},
		{number(greatest), list(1, 2, 3), false, list(2, 3, 1)}, {number(least), list(1, 2, 3), false, list(2, 3, 1)},
		{number(greatest), list(1, 2, 3, 4, 5), false, list(3, 4, 5, 1, 2)}, {number(1 << 32), list(1, 2, 3), false, list(2, 3, 1)},
		{number(1), block, false, array([]int{2, 3}, 2, 3, 1, 5, 6, 4)}, {number(1), block, true, array([]int{2, 3}, 4, 5, 6, 1, 2, 3)},
		{number(-1), block, false, array([]int{2, 3}, 3, 1, 2, 6, 4, 5)}, {number(-1), block, true, array([]int{2, 3}, 4, 5, 6, 1, 2, 3)},
		{number(5), number(8), false, number(8)}, {number(least), number(8), true, number(8)},
		{number(5), list(), false, list()}, {number(-5), list(), true, list()},
		{number(1), array([]int{64, 64, 0}), true, array([]int{64, 64, 0})}, {number(1), array([]int{64, 64, 0}), false, array([]int{64, 64, 0})},
		{number(1), array([]int{0, 64}), true, array([]int{0, 64})}, {number(1), array([]int{0, 64}), false, array([]int{0, 64})},
	} {
		got, e := Roll(x.n, x.c, x.first)
		checkCell(t, "Roll", got, e, x.want)
	}
}

func TestRollPlaceByPlace(t *testing.T) {
	by := []int64{0, 1, 2, 3, 5, 62, 63, 64, 65, 1000, -1, -2, -3, -63, -64, -65, -1000, 1 << 31, 1 << 32, -1 << 32, greatest, greatest - 1, greatest - 62, least, least + 1, least + 63}
	for _, d := range axes() {
		for _, first := range []bool{false, true} {
			for _, n := range by {
				c := sample(d)
				want := meant(d, func(place []int) int64 {
					if len(d) > 0 {
						axis := axisOf(d, first)
						sum := new(big.Int).Add(big.NewInt(int64(place[axis])), big.NewInt(n))
						place[axis] = int(sum.Mod(sum, big.NewInt(int64(d[axis]))).Int64())
					}
					n, _ := cell.At(c, place)
					return n
				})
				got, e := Roll(number(n), c, first)
				checkCell(t, "Roll", got, e, want)
			}
		}
	}
}

func TestRollErrors(t *testing.T) {
	for _, n := range []api.Cell{list(), list(1, 2), array([]int{2, 2}, 1, 2, 3, 4), array([]int{1, 0}), array([]int{0, 0, 0}), array([]int{1, 2}, 0, 0)} {
		for _, d := range axes() {
			for _, first := range []bool{false, true} {
				got, e := Roll(n, sample(d), first)
				checkFault(t, "Roll", got, e, api.ErrRank)
			}
		}
	}
}

func TestTurnByHand(t *testing.T) {
	for _, x := range []struct{ c, want api.Cell }{
		{number(7), number(7)}, {list(1, 2), list(1, 2)}, {list(), list()},
		{array([]int{2, 3}, 1, 2, 3, 4, 5, 6), array([]int{3, 2}, 1, 4, 2, 5, 3, 6)},
		{array([]int{1, 2, 3}, 1, 2, 3, 4, 5, 6), array([]int{3, 2, 1}, 1, 4, 2, 5, 3, 6)},
		{array([]int{2, 1, 2}, 1, 2, 3, 4), array([]int{2, 1, 2}, 1, 3, 2, 4)},
		{array([]int{64, 3, 0}), array([]int{0, 3, 64})}, {array([]int{0, 2}), array([]int{2, 0})},
	} {
		got, e := Turn(x.c)
		checkCell(t, "Turn", got, e, x.want)
	}
}

func TestTurnPlaceByPlace(t *testing.T) {
	for _, d := range axes() {
		c := sample(d)
		turned := slices.Clone(d)
		slices.Reverse(turned)
		want := meant(turned, func(place []int) int64 {
			slices.Reverse(place)
			n, _ := cell.At(c, place)
			return n
		})
		got, e := Turn(c)
		checkCell(t, "Turn", got, e, want)
	}
}

func TestPermuteByHand(t *testing.T) {
	block := array([]int{2, 3}, 1, 2, 3, 4, 5, 6)
	solid := array([]int{1, 2, 3}, 1, 2, 3, 4, 5, 6)
	for _, x := range []struct{ p, c, want api.Cell }{
		{list(1, 0), block, array([]int{3, 2}, 1, 4, 2, 5, 3, 6)}, {list(0, 1), block, block},
		{list(), number(7), number(7)}, {list(0), list(1, 2), list(1, 2)}, {number(0), list(1, 2), list(1, 2)},
		{list(1, 2, 0), solid, array([]int{3, 1, 2}, 1, 4, 2, 5, 3, 6)}, {list(2, 0, 1), solid, array([]int{2, 3, 1}, 1, 2, 3, 4, 5, 6)},
		{list(1, 0, 2), solid, array([]int{2, 1, 3}, 1, 2, 3, 4, 5, 6)}, {list(2, 1, 0), solid, array([]int{3, 2, 1}, 1, 4, 2, 5, 3, 6)},
		{list(1, 2, 0), array([]int{0, 64, 3}), array([]int{3, 0, 64})},
	} {
		got, e := Permute(x.p, x.c)
		checkCell(t, "Permute", got, e, x.want)
	}
}

// perms are all of so many numbers, up to three.
func perms(n int) [][]int64 {
	return [][][]int64{
		{{}}, {{0}}, {{0, 1}, {1, 0}},
		{{0, 1, 2}, {0, 2, 1}, {1, 0, 2}, {1, 2, 0}, {2, 0, 1}, {2, 1, 0}},
	}[n]
}

func TestPermutePlaceByPlace(t *testing.T) {
	for _, d := range axes() {
		for _, p := range perms(len(d)) {
			c := sample(d)
			dims := make([]int, len(d))
			for i, to := range p {
				dims[to] = d[i]
			}
			want := meant(dims, func(place []int) int64 {
				source := make([]int, len(p))
				for i, to := range p {
					source[i] = place[to]
				}
				n, _ := cell.At(c, source)
				return n
			})
			got, e := Permute(list(p...), c)
			checkCell(t, "Permute", got, e, want)
		}
	}
}

func TestPermuteErrors(t *testing.T) {
	block := array([]int{2, 3}, 1, 2, 3, 4, 5, 6)
	for _, x := range []struct {
		p, c api.Cell
		e    api.Errno
	}{
		{array([]int{1, 2}, 1, 0), block, api.ErrRank}, {array([]int{1, 1}, 0), list(1, 2), api.ErrRank}, {array([]int{1, 1, 1}, 9), block, api.ErrRank},
		{array([]int{0, 0}), number(1), api.ErrRank},
		{list(0), block, api.ErrLength}, {list(0, 1, 2), block, api.ErrLength}, {number(0), block, api.ErrLength}, {number(0), number(7), api.ErrLength},
		{list(0), number(7), api.ErrLength}, {list(), list(1), api.ErrLength}, {list(9), block, api.ErrLength}, {list(0, 1, 2, 3), block, api.ErrLength},
		{list(0, 0), block, api.ErrDomain}, {list(1, 1), block, api.ErrDomain}, {list(1, 2), block, api.ErrDomain}, {list(-1, 0), block, api.ErrDomain},
		{list(0, 2), block, api.ErrDomain}, {list(1), list(1, 2), api.ErrDomain}, {number(1), list(1, 2), api.ErrDomain}, {number(-1), list(1, 2), api.ErrDomain},
		{list(1<<32, 1), block, api.ErrDomain}, {list(0, 1<<32+1), block, api.ErrDomain}, {list(least, 1), block, api.ErrDomain}, {list(0, greatest), block, api.ErrDomain},
		{list(0, 1, 1), array([]int{0, 0, 0}), api.ErrDomain}, {list(1, 2, 3), array([]int{1, 1, 1}, 5), api.ErrDomain},
	} {
		got, e := Permute(x.p, x.c)
		checkFault(t, "Permute", got, e, x.e)
	}
}

func TestTakeByHand(t *testing.T) {
	block := array([]int{2, 3}, 1, 2, 3, 4, 5, 6)
	for _, x := range []struct{ n, c, want api.Cell }{
		{list(2), list(1, 2, 3), list(1, 2)}, {number(2), list(1, 2, 3), list(1, 2)}, {list(-2), list(1, 2, 3), list(2, 3)},
		{list(-3), list(1, 2), list(0, 1, 2)}, {list(3), list(1, 2), list(1, 2, 0)}, {list(0), list(1, 2), list()}, {number(0), list(1, 2), list()},
		{list(2), list(), list(0, 0)}, {list(-2), list(), list(0, 0)}, {list(0), list(), list()},
		{list(1, 2), block, array([]int{1, 2}, 1, 2)}, {list(-1, 2), block, array([]int{1, 2}, 4, 5)}, {list(-1, -2), block, array([]int{1, 2}, 5, 6)},
		{list(3, -2), block, array([]int{3, 2}, 2, 3, 5, 6, 0, 0)}, {list(-3, 4), block, array([]int{3, 4}, 0, 0, 0, 0, 1, 2, 3, 0, 4, 5, 6, 0)},
		{list(0, 64), block, array([]int{0, 64})}, {list(64, 0), block, array([]int{64, 0})}, {list(-64, 0), block, array([]int{64, 0})},
		{list(2, 2), array([]int{2, 0}), array([]int{2, 2}, 0, 0, 0, 0)}, {list(1, 1, 1), array([]int{64, 64, 0}), array([]int{1, 1, 1}, 0)},
		{list(64, 64, 0), array([]int{64, 64, 0}), array([]int{64, 64, 0})}, {list(0, -64, 64), array([]int{1, 1, 1}, 5), array([]int{0, 64, 64})},
		{number(3), number(5), list(5, 0, 0)}, {number(-3), number(5), list(0, 0, 5)}, {list(2), number(5), list(5, 0)}, {number(0), number(5), list()},
		{list(1, 2), number(5), array([]int{1, 2}, 5, 0)}, {list(-2, 2), number(5), array([]int{2, 2}, 0, 0, 5, 0)},
		{list(1, -1, 2), number(5), array([]int{1, 1, 2}, 5, 0)}, {list(), number(5), number(5)},
	} {
		got, e := Take(x.n, x.c)
		checkCell(t, "Take", got, e, x.want)
	}
	got, e := Take(number(64), list(1))
	checkCell(t, "Take of 64", got, e, list(append([]int64{1}, make([]int64, 63)...)...))
	got, e = Take(number(-64), list(1))
	checkCell(t, "Take of the last 64", got, e, list(append(make([]int64, 63), 1)...))
}

func TestTakeErrors(t *testing.T) {
	block := array([]int{2, 3}, 1, 2, 3, 4, 5, 6)
	for _, x := range []struct {
		n, c api.Cell
		e    api.Errno
	}{
		{list(65), list(1), api.ErrSize}, {list(-65), list(1), api.ErrSize}, {number(65), number(1), api.ErrSize}, {list(8, 9), block, api.ErrSize},
		{list(-8, 9), block, api.ErrSize}, {list(-9, -8), block, api.ErrSize}, {list(0, 65), block, api.ErrSize}, {list(-65, 0), block, api.ErrSize},
		{list(greatest), list(1), api.ErrSize}, {list(least), list(1), api.ErrSize}, {list(least, 0), block, api.ErrSize}, {list(least+1, 0), block, api.ErrSize},
		{list(1<<32, 1<<32), block, api.ErrSize}, {list(1<<32+1, 0), block, api.ErrSize}, {list(-1<<32, 1), block, api.ErrSize},
		{list(64, 64, 1), array([]int{64, 64, 0}), api.ErrSize}, {list(5, 5, 5), number(1), api.ErrSize}, {list(-4, 4, 5), array([]int{1, 1, 1}, 2), api.ErrSize},
	} {
		got, e := Take(x.n, x.c)
		checkFault(t, "Take", got, e, x.e)
	}
}

func TestDropByHand(t *testing.T) {
	block := array([]int{2, 3}, 1, 2, 3, 4, 5, 6)
	for _, x := range []struct{ n, c, want api.Cell }{
		{list(1), list(1, 2, 3), list(2, 3)}, {number(1), list(1, 2, 3), list(2, 3)}, {list(-1), list(1, 2, 3), list(1, 2)}, {list(0), list(1, 2, 3), list(1, 2, 3)},
		{list(3), list(1, 2, 3), list()}, {list(-3), list(1, 2, 3), list()}, {list(4), list(1, 2, 3), list()}, {list(-4), list(1, 2, 3), list()},
		{list(greatest), list(1, 2, 3), list()}, {list(least), list(1, 2, 3), list()}, {list(1 << 32), list(1, 2, 3), list()}, {list(-1 << 32), list(1, 2, 3), list()},
		{list(1<<32 + 1), list(1, 2, 3), list()}, {list(5), list(), list()}, {list(-5), list(), list()},
		{list(1, 0), block, array([]int{1, 3}, 4, 5, 6)}, {list(-1, 0), block, array([]int{1, 3}, 1, 2, 3)}, {list(0, 1), block, array([]int{2, 2}, 2, 3, 5, 6)},
		{list(0, -1), block, array([]int{2, 2}, 1, 2, 4, 5)}, {list(1, -2), block, array([]int{1, 1}, 4)}, {list(2, 1), block, array([]int{0, 2})},
		{list(1, 9), block, array([]int{1, 0})}, {list(least, greatest), block, array([]int{0, 0})}, {list(0, 0), block, block},
		{list(0, 63, 1), array([]int{64, 64, 0}), array([]int{64, 1, 0})}, {list(1, -1, 0), array([]int{64, 64, 0}), array([]int{63, 63, 0})},
		{number(0), number(5), list(5)}, {number(1), number(5), list()}, {number(-1), number(5), list()}, {list(0, 0), number(5), array([]int{1, 1}, 5)},
		{list(0, 1), number(5), array([]int{1, 0})}, {list(0, 0, 0), number(5), array([]int{1, 1, 1}, 5)}, {list(), number(5), number(5)},
	} {
		got, e := Drop(x.n, x.c)
		checkCell(t, "Drop", got, e, x.want)
	}
}

func TestTakeAndDropErrorsLikewise(t *testing.T) {
	block := array([]int{2, 3}, 1, 2, 3, 4, 5, 6)
	for _, x := range []struct {
		n, c api.Cell
		e    api.Errno
	}{
		{array([]int{1, 2}, 1, 1), block, api.ErrRank}, {array([]int{1, 1}, 1), list(1), api.ErrRank}, {array([]int{1, 1, 1}, 99), block, api.ErrRank},
		{array([]int{1, 1}, 1), number(5), api.ErrRank}, {array([]int{0, 0}), number(5), api.ErrRank}, {array([]int{2, 2}, 1, 1, 1, 1), number(5), api.ErrRank},
		{list(1), block, api.ErrLength}, {number(1), block, api.ErrLength}, {list(1, 1, 1), block, api.ErrLength}, {list(1, 1), list(1), api.ErrLength},
		{list(), list(1), api.ErrLength}, {list(), list(), api.ErrLength}, {list(99), block, api.ErrLength}, {number(least), block, api.ErrLength},
		{list(1, 1, 1, 1), number(5), api.ErrLength}, {list(0, 0, 0, 0), number(5), api.ErrLength}, {list(make([]int64, 64)...), number(5), api.ErrLength},
		{list(1, 1, 1, 1), array([]int{1, 1, 1}, 5), api.ErrLength}, {list(99, 99, 99, 99), number(5), api.ErrLength},
	} {
		got, e := Take(x.n, x.c)
		checkFault(t, "Take", got, e, x.e)
		got, e = Drop(x.n, x.c)
		checkFault(t, "Drop", got, e, x.e)
	}
}

// taken tells the number that is to stand at a place along an axis that is
// taken, as the place along c's own axis; -1 of a nought.
func taken(n int64, length, i int) int {
	if n < 0 {
		i += length - int(-n)
	}
	if i < 0 || i >= length {
		return -1
	}
	return i
}

// dropped tells along an axis what is left: from which place on, how many.
func dropped(n int64, length int) (int, int) {
	left := make([]int, length)
	for i := range left {
		left[i] = i
	}
	for range n {
		left = left[min(1, len(left)):]
	}
	for range -n {
		left = left[:max(0, len(left)-1)]
	}
	if len(left) == 0 {
		return 0, 0
	}
	return left[0], len(left)
}

// choices are lists of numbers, one for each axis.
func choices(rank int) [][]int64 {
	all := [][]int64{{}}
	for range rank {
		var longer [][]int64
		for _, l := range all {
			for _, n := range []int64{0, 1, 2, 3, 5, 64, -1, -2, -4, -64} {
				longer = append(longer, append(slices.Clone(l), n))
			}
		}
		all = longer
	}
	return all
}

func TestTakePlaceByPlace(t *testing.T) {
	for _, d := range axes() {
		c := sample(d)
		for _, n := range choices(len(d)) {
			dims := make([]int, len(d))
			for axis := range n {
				dims[axis] = int(max(n[axis], -n[axis]))
			}
			got, e := Take(list(n...), c)
			if !shape.Right(dims) {
				checkFault(t, "Take", got, e, api.ErrSize)
				continue
			}
			checkCell(t, "Take", got, e, meant(dims, func(place []int) int64 {
				for axis := range n {
					place[axis] = taken(n[axis], d[axis], place[axis])
				}
				stood, _ := cell.At(c, place)
				return stood
			}))
		}
	}
}

func TestDropPlaceByPlace(t *testing.T) {
	for _, d := range axes() {
		c := sample(d)
		for _, n := range choices(len(d)) {
			dims, from := make([]int, len(d)), make([]int, len(d))
			for axis := range n {
				from[axis], dims[axis] = dropped(n[axis], d[axis])
			}
			got, e := Drop(list(n...), c)
			checkCell(t, "Drop", got, e, meant(dims, func(place []int) int64 {
				for axis := range n {
					place[axis] += from[axis]
				}
				stood, _ := cell.At(c, place)
				return stood
			}))
		}
	}
}

func TestThereAndBack(t *testing.T) {
	for _, d := range axes() {
		c := sample(d)
		once, e := Turn(c)
		twice, e := Turn(must(t, once, e))
		checkCell(t, "Turned twice", twice, e, c)
		for _, first := range []bool{false, true} {
			once, e := Flip(c, first)
			twice, e := Flip(must(t, once, e), first)
			checkCell(t, "Flipped twice", twice, e, c)
			for _, n := range []int64{0, 1, 2, 63, -5, 1 << 40, greatest, -greatest} {
				there, e := Roll(number(n), c, first)
				back, e := Roll(number(-n), must(t, there, e), first)
				checkCell(t, "Rolled there and back", back, e, c)
			}
		}
	}
}

// TestTakeAndDropMakeTheWhole: along the last axis by Join, and along the
// first one by Stack, since Join goes along the last one alone.
func TestTakeAndDropMakeTheWhole(t *testing.T) {
	for _, d := range axes() {
		if len(d) == 0 {
			continue
		}
		c := sample(d)
		last := len(d) - 1
		for k := range d[last] + 1 {
			ahead, behind := halves(t, c, last, int64(k))
			got, e := mold.Join(ahead, behind)
			checkCell(t, "joined along the last axis", got, e, c)
		}
		for k := range d[0] + 1 {
			ahead, behind := halves(t, c, 0, int64(k))
			if items := append(parts(ahead), parts(behind)...); len(items) > 0 {
				got, e := cell.Stack(items...)
				checkCell(t, "joined along the first axis", got, e, c)
			}
		}
	}
}

// halves tells what Take and Drop of one number tell along one axis.
func halves(t *testing.T, c api.Cell, axis int, k int64) (api.Cell, api.Cell) {
	t.Helper()
	take, drop := make([]int64, len(c.Dims)), make([]int64, len(c.Dims))
	for i, length := range c.Dims {
		take[i] = int64(length)
	}
	take[axis], drop[axis] = k, k
	ahead, e := Take(list(take...), c)
	must(t, ahead, e)
	behind, e := Drop(list(drop...), c)
	return ahead, must(t, behind, e)
}

func parts(c api.Cell) []api.Cell {
	var l []api.Cell
	for i := range c.Dims[0] {
		item, _ := cell.Item(c, i)
		l = append(l, item)
	}
	return l
}

func TestPlacesMayBeLeftEarly(t *testing.T) {
	met := 0
	for i, place := range places([]int{2, 3}) {
		if i != met || shape.Index([]int{2, 3}, place) != i {
			t.Errorf("the place %d: %d, %v", met, i, place)
		}
		if met++; met == 4 {
			break
		}
	}
	if met != 4 {
		t.Errorf("met %d places", met)
	}
}

func overwrite(c api.Cell) {
	for i := range c.Dims {
		c.Dims[i] = 77
	}
	for i := range c.Vals {
		c.Vals[i] = 77
	}
}

func TestArgumentsStayAndAnswersAreNew(t *testing.T) {
	for _, d := range axes() {
		c := sample(d)
		for _, do := range ones() {
			got, _ := do(c)
			overwrite(got)
			checkCell(t, "what was handed in", c, api.OK, sample(d))
		}
		for _, n := range []api.Cell{number(0), number(1), list(), list(0), list(0, 1), list(1, 0), list(0, 1, 2), list(2, 1, 0), list(-1, 3, 1)} {
			before := array(slices.Clone(n.Dims), slices.Clone(n.Vals)...)
			for _, do := range twos() {
				got, _ := do(n, c)
				overwrite(got)
				checkCell(t, "what was handed in", c, api.OK, sample(d))
				checkCell(t, "what was handed in", n, api.OK, before)
			}
		}
	}
}
