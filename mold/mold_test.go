package mold

import (
	"math"
	"slices"
	"testing"

	"riffle/api"
	"riffle/cell"
	"riffle/shape"
)

const least, greatest = math.MinInt64, math.MaxInt64

// axes are some that may be: all kinds of ranks, with noughts and ones.
func axes() [][]int {
	return [][]int{nil, {}, {0}, {1}, {2}, {3}, {31}, {33}, {63}, {64}, {1, 1}, {1, 2}, {2, 1}, {2, 3}, {3, 2}, {2, 0}, {0, 2}, {0, 0}, {0, 63}, {0, 64},
		{8, 8}, {8, 7}, {64, 1}, {1, 64}, {64, 0}, {1, 1, 1}, {2, 3, 4}, {4, 3, 2}, {2, 3, 5}, {2, 3, 6}, {1, 2, 3}, {3, 1, 2}, {2, 0, 3}, {3, 2, 0},
		{0, 64, 64}, {64, 64, 0}, {64, 0, 64}, {64, 0, 63}, {4, 4, 4}, {4, 4, 1}}
}

// broken are cells that may not be.
func broken() []api.Cell {
	return []api.Cell{
		{}, {Dims: []int{}, Vals: []int64{}}, {Vals: []int64{1, 2}}, {Dims: []int{2}}, {Dims: []int{1}, Vals: []int64{1, 2}},
		{Dims: []int{2}, Vals: []int64{1, 2, 3}}, {Dims: []int{0}, Vals: []int64{1}}, {Dims: []int{2, 2}, Vals: []int64{1, 2, 3}},
		{Dims: []int{65}, Vals: make([]int64, 65)}, {Dims: []int{1, 1, 1, 1}, Vals: []int64{1}}, {Dims: []int{-1}}, {Dims: []int{-1, -1}, Vals: []int64{1}},
		{Dims: []int{0, 65}}, {Dims: []int{0, 0, 0, 0}}, {Dims: []int{math.MaxInt}}, {Dims: []int{math.MinInt}}, {Dims: []int{1 << 32, 1 << 32}},
	}
}

// sample is a cell of axes that may be, whose numbers are all unlike.
func sample(dims []int, seed int64) api.Cell {
	c := cell.Zero(dims)
	for i := range c.Vals {
		c.Vals[i] = seed + int64(i)
	}
	return c
}

func number(n int64) api.Cell { return api.Cell{Vals: []int64{n}} }

func list(l ...int64) api.Cell { return api.Cell{Dims: []int{len(l)}, Vals: l} }

func array(dims []int, l ...int64) api.Cell { return api.Cell{Dims: dims, Vals: l} }

// checkFault holds an answer beside an error against the zero value.
func checkFault(t *testing.T, what string, got api.Cell, e, want api.Errno) {
	t.Helper()
	if e != want || got.Dims != nil || got.Vals != nil {
		t.Errorf("%s: got %v, %d, want nothing, %d", what, got, e, want)
	}
}

func checkCell(t *testing.T, what string, got api.Cell, e api.Errno, want api.Cell) {
	t.Helper()
	if e != api.OK || !cell.Same(got, want) {
		t.Errorf("%s: got %v, %d, want %v", what, got, e, want)
	}
}

// must tells a cell that was told beside no error.
func must(t *testing.T, c api.Cell, e api.Errno) api.Cell {
	t.Helper()
	if e != api.OK {
		t.Fatalf("error %d", e)
	}
	return c
}

// ones are calls of one cell, twos such of two.
func ones() []func(c api.Cell) (api.Cell, api.Errno) {
	return []func(c api.Cell) (api.Cell, api.Errno){Dims, Tally, Ravel, Count}
}

func twos() []func(a, b api.Cell) (api.Cell, api.Errno) {
	return []func(a, b api.Cell) (api.Cell, api.Errno){Reshape, Join,
		func(n, c api.Cell) (api.Cell, api.Errno) { return Copy(n, c, false) },
		func(n, c api.Cell) (api.Cell, api.Errno) { return Copy(n, c, true) }}
}

func TestCellsThatMayNotBeComeFirst(t *testing.T) {
	others := []api.Cell{number(2), number(-1), number(greatest), list(), list(1, 2), list(-1, 99), array([]int{2, 2}, 1, 2, 3, -4), {Dims: []int{64, 64, 0}}}
	for _, bad := range broken() {
		for _, do := range ones() {
			got, e := do(bad)
			checkFault(t, "one", got, e, api.ErrArg)
		}
		for _, do := range twos() {
			for _, other := range append(others, bad) {
				got, e := do(bad, other)
				checkFault(t, "the left one", got, e, api.ErrArg)
				got, e = do(other, bad)
				checkFault(t, "the right one", got, e, api.ErrArg)
			}
		}
	}
}

func TestDimsTallyRavel(t *testing.T) {
	for _, x := range []struct {
		c, dims api.Cell
		tally   int64
		ravel   api.Cell
	}{
		{number(7), list(), 1, list(7)},
		{list(), list(0), 0, list()},
		{list(5, 6, 7), list(3), 3, list(5, 6, 7)},
		{array([]int{2, 3}, 1, 2, 3, 4, 5, 6), list(2, 3), 2, list(1, 2, 3, 4, 5, 6)},
		{array([]int{3, 1, 2}, 1, 2, 3, 4, 5, 6), list(3, 1, 2), 3, list(1, 2, 3, 4, 5, 6)},
		{array([]int{2, 0}), list(2, 0), 2, list()},
		{array([]int{0, 2}), list(0, 2), 0, list()},
		{array([]int{64, 64, 0}), list(64, 64, 0), 64, list()},
		{array([]int{1, 1}, least), list(1, 1), 1, list(least)},
	} {
		got, e := Dims(x.c)
		checkCell(t, "Dims", got, e, x.dims)
		got, e = Tally(x.c)
		checkCell(t, "Tally", got, e, number(x.tally))
		got, e = Ravel(x.c)
		checkCell(t, "Ravel", got, e, x.ravel)
	}
	for _, d := range axes() {
		c := sample(d, 3)
		got, e := Ravel(c)
		checkCell(t, "Ravel", got, e, list(c.Vals...))
	}
}

func TestReshape(t *testing.T) {
	for _, x := range []struct{ n, c, want api.Cell }{
		{list(2, 2), list(1, 2, 3), array([]int{2, 2}, 1, 2, 3, 1)},
		{list(2, 2), number(5), array([]int{2, 2}, 5, 5, 5, 5)},
		{list(7), list(1, 2, 3), list(1, 2, 3, 1, 2, 3, 1)},
		{number(4), list(1, 2, 3), list(1, 2, 3, 1)},
		{number(0), list(1, 2, 3), list()},
		{list(2), list(1, 2, 3), list(1, 2)},
		{list(), list(8, 9), number(8)},
		{list(), list(), number(0)},
		{list(), array([]int{3, 2, 0}), number(0)},
		{list(3), list(), list(0, 0, 0)},
		{list(2, 0), list(1), array([]int{2, 0})},
		{list(0, 2), list(), array([]int{0, 2})},
		{list(64, 64, 0), list(1), array([]int{64, 64, 0})},
		{list(0, 64, 64), list(1), array([]int{0, 64, 64})},
		{list(1, 1, 1), array([]int{2, 2}, 4, 3, 2, 1), array([]int{1, 1, 1}, 4)},
		{list(3, 2), array([]int{2, 3}, 1, 2, 3, 4, 5, 6), array([]int{3, 2}, 1, 2, 3, 4, 5, 6)},
	} {
		got, e := Reshape(x.n, x.c)
		checkCell(t, "Reshape", got, e, x.want)
	}
}

func TestReshapeGoesRound(t *testing.T) {
	for _, to := range axes() {
		n, _ := Dims(sample(to, 0))
		for _, from := range axes() {
			c := sample(from, 9)
			want := cell.Zero(to)
			for i := range want.Vals {
				if len(c.Vals) > 0 {
					want.Vals[i] = c.Vals[i%len(c.Vals)]
				}
			}
			got, e := Reshape(n, c)
			checkCell(t, "Reshape", got, e, want)
		}
	}
}

func TestReshapeErrors(t *testing.T) {
	for _, x := range []struct {
		n api.Cell
		e api.Errno
	}{
		{array([]int{1, 2}, 2, 2), api.ErrRank}, {array([]int{1, 1}, -1), api.ErrRank}, {array([]int{1, 1, 1}, 99), api.ErrRank}, {array([]int{0, 0}), api.ErrRank},
		{list(-1, 99), api.ErrDomain}, {list(99, -1), api.ErrDomain}, {number(-1), api.ErrDomain}, {list(least), api.ErrDomain},
		{list(0, -1), api.ErrDomain}, {list(1, 1, 1, 1, -1), api.ErrDomain},
		{list(9, 9), api.ErrSize}, {number(65), api.ErrSize}, {list(65, 0), api.ErrSize}, {list(0, 65), api.ErrSize}, {list(1, 1, 1, 1), api.ErrSize},
		{list(0, 0, 0, 0), api.ErrSize}, {number(greatest), api.ErrSize}, {list(1<<32, 1<<32), api.ErrSize}, {list(0, greatest), api.ErrSize},
		{list(1<<32 + 2), api.ErrSize}, {list(2, 33), api.ErrSize}, {list(make([]int64, 64)...), api.ErrSize},
	} {
		for _, c := range []api.Cell{number(1), list(), list(1, 2, 3)} {
			got, e := Reshape(x.n, c)
			checkFault(t, "Reshape", got, e, x.e)
		}
	}
}

func TestJoinByHand(t *testing.T) {
	square := array([]int{2, 2}, 1, 2, 3, 4)
	for _, x := range []struct{ a, b, want api.Cell }{
		{number(3), number(4), list(3, 4)},
		{list(1, 2), list(3), list(1, 2, 3)},
		{list(), list(3), list(3)},
		{list(3), list(), list(3)},
		{list(), list(), list()},
		{number(9), list(1, 2), list(9, 1, 2)},
		{list(1, 2), number(9), list(1, 2, 9)},
		{number(9), list(), list(9)},
		{square, number(7), array([]int{2, 3}, 1, 2, 7, 3, 4, 7)},
		{number(7), square, array([]int{2, 3}, 7, 1, 2, 7, 3, 4)},
		{square, array([]int{2, 1}, 8, 9), array([]int{2, 3}, 1, 2, 8, 3, 4, 9)},
		{square, array([]int{2, 0}), square},
		{array([]int{2, 0}), array([]int{2, 0}), array([]int{2, 0})},
		{array([]int{2, 0}), number(5), array([]int{2, 1}, 5, 5)},
		{array([]int{64, 0}), number(5), column64(5)},
		{array([]int{0, 63}), number(5), array([]int{0, 64})},
		{array([]int{64, 64, 0}), array([]int{64, 64, 0}), array([]int{64, 64, 0})},
		{array([]int{2, 1, 2}, 1, 2, 3, 4), array([]int{2, 1, 1}, 8, 9), array([]int{2, 1, 3}, 1, 2, 8, 3, 4, 9)},
		{array([]int{1, 2, 1}, 1, 2), number(0), array([]int{1, 2, 2}, 1, 0, 2, 0)},
	} {
		got, e := Join(x.a, x.b)
		checkCell(t, "Join", got, e, x.want)
	}
}

// column64 is a column of 64 times one number.
func column64(n int64) api.Cell {
	return array([]int{64, 1}, slices.Repeat([]int64{n}, 64)...)
}

func TestJoinErrors(t *testing.T) {
	for _, x := range []struct {
		a, b []int
		e    api.Errno
	}{
		{[]int{2}, []int{2, 2}, api.ErrRank}, {[]int{2, 2}, []int{2}, api.ErrRank}, {[]int{1}, []int{1, 1, 1}, api.ErrRank},
		{[]int{64}, []int{1, 64}, api.ErrRank}, {[]int{0}, []int{0, 0}, api.ErrRank}, {[]int{2, 1}, []int{3, 1, 1}, api.ErrRank},
		{[]int{2, 2}, []int{3, 2}, api.ErrLength}, {[]int{2, 2, 2}, []int{2, 3, 2}, api.ErrLength}, {[]int{2, 2, 2}, []int{1, 2, 2}, api.ErrLength},
		{[]int{2, 32}, []int{1, 64}, api.ErrLength}, {[]int{0, 64}, []int{1, 64}, api.ErrLength}, {[]int{2, 0}, []int{3, 0}, api.ErrLength},
		{[]int{64}, []int{1}, api.ErrSize}, {[]int{33}, []int{32}, api.ErrSize}, {[]int{64}, nil, api.ErrSize}, {nil, []int{64}, api.ErrSize},
		{[]int{8, 8}, []int{8, 1}, api.ErrSize}, {[]int{8, 8}, nil, api.ErrSize}, {[]int{0, 64}, nil, api.ErrSize}, {[]int{0, 33}, []int{0, 32}, api.ErrSize},
		{[]int{64, 64, 0}, nil, api.ErrSize}, {nil, []int{64, 64, 0}, api.ErrSize}, {[]int{64, 0, 64}, nil, api.ErrSize}, {[]int{4, 4, 4}, []int{4, 4, 4}, api.ErrSize},
	} {
		got, e := Join(sample(x.a, 1), sample(x.b, 2))
		checkFault(t, "Join", got, e, x.e)
	}
}

// joinedAxes tells the axes that a Join is to have, by the chapter's words.
func joinedAxes(a, b []int) ([]int, api.Errno) {
	rank := max(len(a), len(b), 1)
	if len(a) > 0 && len(b) > 0 && len(a) != len(b) {
		return nil, api.ErrRank
	}
	dims, along := make([]int, rank), 0
	for _, d := range [][]int{a, b} {
		if len(d) == 0 {
			along++
			continue
		}
		copy(dims, d)
		along += d[rank-1]
	}
	if len(a) > 0 && len(b) > 0 && !slices.Equal(a[:rank-1], b[:rank-1]) {
		return nil, api.ErrLength
	}
	dims[rank-1] = along
	if !shape.Right(dims) {
		return nil, api.ErrSize
	}
	return dims, api.OK
}

// joinedAt tells the number that is to stand at a place of a Join.
func joinedAt(a, b api.Cell, place []int) int64 {
	last, ahead := len(place)-1, 1
	if len(a.Dims) > 0 {
		ahead = a.Dims[last]
	}
	if place[last] < ahead {
		return spread(a, place)
	}
	return spread(b, shape.With(place, last, place[last]-ahead))
}

// spread tells the number at a place, the only one of a cell without axes.
func spread(c api.Cell, place []int) int64 {
	if len(c.Dims) == 0 {
		return c.Vals[0]
	}
	n, _ := cell.At(c, place)
	return n
}

func TestJoinPlaceByPlace(t *testing.T) {
	for _, da := range axes() {
		for _, db := range axes() {
			a, b := sample(da, 100), sample(db, 200)
			got, e := Join(a, b)
			dims, fault := joinedAxes(da, db)
			if fault != api.OK {
				checkFault(t, "Join", got, e, fault)
				continue
			}
			want := cell.Zero(dims)
			for i := range want.Vals {
				want.Vals[i] = joinedAt(a, b, shape.Place(dims, i))
			}
			checkCell(t, "Join", got, e, want)
		}
	}
}

func TestCopyByHand(t *testing.T) {
	block := array([]int{2, 3}, 1, 2, 3, 4, 5, 6)
	cube := array([]int{2, 2, 2}, 1, 2, 3, 4, 5, 6, 7, 8)
	for _, x := range []struct {
		n, c  api.Cell
		first bool
		want  api.Cell
	}{
		{list(1, 0, 2), list(4, 5, 6), false, list(4, 6, 6)},
		{list(1, 0, 2), list(4, 5, 6), true, list(4, 6, 6)},
		{list(1, 0, 2), block, false, array([]int{2, 3}, 1, 3, 3, 4, 6, 6)},
		{list(0, 2), block, true, array([]int{2, 3}, 4, 5, 6, 4, 5, 6)},
		{list(2, 1), block, true, array([]int{3, 3}, 1, 2, 3, 1, 2, 3, 4, 5, 6)},
		{number(2), block, false, array([]int{2, 6}, 1, 1, 2, 2, 3, 3, 4, 4, 5, 5, 6, 6)},
		{number(2), block, true, array([]int{4, 3}, 1, 2, 3, 1, 2, 3, 4, 5, 6, 4, 5, 6)},
		{number(0), block, false, array([]int{2, 0})},
		{number(0), block, true, array([]int{0, 3})},
		{list(0, 1), cube, false, array([]int{2, 2, 1}, 2, 4, 6, 8)},
		{list(0, 1), cube, true, array([]int{1, 2, 2}, 5, 6, 7, 8)},
		{list(3), number(5), false, list(5, 5, 5)},
		{list(3), number(5), true, list(5, 5, 5)},
		{number(3), number(5), false, list(5, 5, 5)},
		{number(0), number(5), true, list()},
		{number(1), number(5), false, list(5)},
		{list(), list(), false, list()},
		{number(3), list(), false, list()},
		{number(greatest), list(), false, list()},
		{number(greatest), array([]int{2, 0}), false, array([]int{2, 0})},
		{number(greatest), array([]int{0, 2}), true, array([]int{0, 2})},
		{number(21), array([]int{0, 3}), false, array([]int{0, 63})},
		{number(16), array([]int{4, 0}), true, array([]int{64, 0})},
		{number(1), array([]int{64, 64, 0}), true, array([]int{64, 64, 0})},
		{list(), array([]int{0, 64, 64}), true, array([]int{0, 64, 64})},
		{number(64), list(7), false, list(slices.Repeat([]int64{7}, 64)...)},
	} {
		got, e := Copy(x.n, x.c, x.first)
		checkCell(t, "Copy", got, e, x.want)
	}
}

func TestCopyErrors(t *testing.T) {
	block := array([]int{2, 3}, 1, 2, 3, 4, 5, 6)
	for _, x := range []struct {
		n, c  api.Cell
		first bool
		e     api.Errno
	}{
		{array([]int{1, 3}, 1, 1, 1), block, false, api.ErrRank}, {array([]int{1, 1}, -1), block, false, api.ErrRank}, {array([]int{1, 1, 1}, 99), number(1), true, api.ErrRank},
		{array([]int{0, 0}), list(), false, api.ErrRank},
		{list(1, 1), block, false, api.ErrLength}, {list(1, 1, 1), block, true, api.ErrLength}, {list(1), list(1, 2), false, api.ErrLength},
		{list(), list(1), false, api.ErrLength}, {list(1), list(), false, api.ErrLength}, {list(1, 1), number(5), false, api.ErrLength}, {list(), number(5), true, api.ErrLength},
		{list(-1, 99), block, false, api.ErrLength}, {list(2), array([]int{1, 2}, 3, 4), false, api.ErrLength},
		{list(99, -1, 99), block, false, api.ErrDomain}, {number(-1), block, true, api.ErrDomain}, {number(-1), list(), false, api.ErrDomain},
		{list(least), number(3), false, api.ErrDomain}, {number(least), number(3), false, api.ErrDomain}, {list(greatest, -1), list(1, 2), true, api.ErrDomain},
		{number(65), number(1), false, api.ErrSize}, {number(33), list(1, 2), false, api.ErrSize}, {number(11), block, false, api.ErrSize}, {number(11), block, true, api.ErrSize},
		{list(32, 33), list(1, 2), false, api.ErrSize}, {number(greatest), list(1, 2), false, api.ErrSize}, {list(greatest, greatest), list(1, 2), true, api.ErrSize},
		{list(greatest, greatest, 2), list(1, 2, 3), false, api.ErrSize}, {list(1<<62, 1<<62, 1<<62, 1<<62), list(1, 2, 3, 4), false, api.ErrSize},
		{number(1 << 32), list(1), false, api.ErrSize}, {number(22), array([]int{0, 3}), false, api.ErrSize}, {number(17), array([]int{4, 0}), true, api.ErrSize},
		{number(1 << 62), list(1, 2, 3, 4), false, api.ErrSize},
	} {
		got, e := Copy(x.n, x.c, x.first)
		checkFault(t, "Copy", got, e, x.e)
	}
}

// sources tells along an axis where each part of a copy comes from.
func sources(times []int64) []int {
	var from []int
	for i, n := range times {
		for range n {
			from = append(from, i)
		}
	}
	return from
}

func TestCopyPlaceByPlace(t *testing.T) {
	for _, d := range axes() {
		if len(d) == 0 {
			continue
		}
		for _, first := range []bool{false, true} {
			axis := len(d) - 1
			if first {
				axis = 0
			}
			for seed := range 5 {
				times := make([]int64, d[axis])
				for i := range times {
					times[i] = int64((i*i + seed*(i+1)) % 3)
				}
				checkCopy(t, times, sample(d, 5), axis, first)
			}
		}
	}
}

func checkCopy(t *testing.T, times []int64, c api.Cell, axis int, first bool) {
	t.Helper()
	got, e := Copy(list(times...), c, first)
	from := sources(times)
	dims := shape.With(c.Dims, axis, len(from))
	if !shape.Right(dims) {
		checkFault(t, "Copy", got, e, api.ErrSize)
		return
	}
	want := cell.Zero(dims)
	for i := range want.Vals {
		place := shape.Place(dims, i)
		want.Vals[i], _ = cell.At(c, shape.With(place, axis, from[place[axis]]))
	}
	checkCell(t, "Copy", got, e, want)
}

func TestCount(t *testing.T) {
	var counted []int64
	for n := range int64(65) {
		for _, d := range [][]int{nil, {1}, {1, 1}, {1, 1, 1}} {
			got, e := Count(array(d, n))
			checkCell(t, "Count", got, e, list(counted...))
		}
		counted = append(counted, n)
	}
	for _, x := range []struct {
		n api.Cell
		e api.Errno
	}{
		{list(), api.ErrRank}, {list(1, 2), api.ErrRank}, {list(-1, 99), api.ErrRank}, {array([]int{1, 2}, 1, 1), api.ErrRank}, {array([]int{2, 0}), api.ErrRank},
		{number(-1), api.ErrDomain}, {list(-1), api.ErrDomain}, {number(least), api.ErrDomain},
		{number(65), api.ErrSize}, {list(65), api.ErrSize}, {number(greatest), api.ErrSize}, {number(1<<32 + 1), api.ErrSize},
	} {
		got, e := Count(x.n)
		checkFault(t, "Count", got, e, x.e)
	}
}

func TestRavelReshapedByDimsIsTheCell(t *testing.T) {
	for _, d := range axes() {
		c := sample(d, 4)
		dims, e := Dims(c)
		must(t, dims, e)
		ravel, e := Ravel(c)
		got, e := Reshape(dims, must(t, ravel, e))
		checkCell(t, "Reshape of Dims and Ravel", got, e, c)
	}
}

func TestCopiedOnceIsAsItWas(t *testing.T) {
	for _, d := range axes() {
		if len(d) == 0 {
			continue
		}
		c := sample(d, 4)
		for _, first := range []bool{false, true} {
			axis := len(d) - 1
			if first {
				axis = 0
			}
			got, e := Copy(number(1), c, first)
			checkCell(t, "Copy of 1", got, e, c)
			got, e = Copy(list(slices.Repeat([]int64{1}, d[axis])...), c, first)
			checkCell(t, "Copy of ones", got, e, c)
		}
	}
}

func TestJoinHasAsManyAsBoth(t *testing.T) {
	for _, da := range axes() {
		for _, db := range axes() {
			both, e := Join(sample(da, 1), sample(db, 2))
			// A number that is laid along others counts as often as it stands.
			if e != api.OK || len(da) == 0 || len(db) == 0 {
				continue
			}
			ravel, e := Ravel(both)
			if n := len(must(t, ravel, e).Vals); n != shape.Size(da)+shape.Size(db) {
				t.Errorf("a Join of %v and %v has %d numbers", da, db, n)
			}
		}
	}
}

// overwrite fills an answer with what no argument has.
func overwrite(c api.Cell) {
	for i := range c.Dims {
		c.Dims[i] = 77
	}
	for i := range c.Vals {
		c.Vals[i] = -77
	}
}

func TestArgumentsStayAndAnswersAreNew(t *testing.T) {
	for _, d := range axes() {
		c := sample(d, 1)
		for _, do := range ones() {
			got, _ := do(c)
			overwrite(got)
			checkCell(t, "what was handed in", c, api.OK, sample(d, 1))
		}
		for _, other := range []api.Cell{number(1), list(1), list(2, 3), sample(d, 1), {Dims: []int{0}}} {
			before := array(slices.Clone(other.Dims), slices.Clone(other.Vals)...)
			for _, do := range twos() {
				got, _ := do(c, other)
				overwrite(got)
				got, _ = do(other, c)
				overwrite(got)
				checkCell(t, "what was handed in", c, api.OK, sample(d, 1))
				checkCell(t, "what was handed in", other, api.OK, before)
			}
		}
	}
}
