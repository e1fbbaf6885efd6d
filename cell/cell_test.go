package cell

import (
	"math"
	"slices"
	"testing"

	"riffle/api"
	"riffle/shape"
)

// samples are axes that may be: all kinds of ranks, with noughts and ones.
func samples() [][]int {
	all := [][]int{nil, {}}
	lengths := []int{0, 1, 2, 3, 4, 5, 8, 32, 64}
	for _, a := range lengths {
		all = append(all, []int{a})
		for _, b := range lengths {
			if a*b <= 64 {
				all = append(all, []int{a, b})
			}
			for _, c := range lengths {
				if a*b*c <= 64 {
					all = append(all, []int{a, b, c})
				}
			}
		}
	}
	return all
}

// wrong are axes that may not be.
func wrong() [][]int {
	return [][]int{
		{-1}, {65}, {2, -1}, {-1, -1}, {-2, 0}, {0, 65}, {65, 0}, {8, 9}, {4, 4, 5},
		{1, 1, 1, 1}, {0, 0, 0, 0}, {math.MaxInt}, {math.MinInt}, {1 << 32, 1 << 32},
	}
}

// numbers are n unlike ones, with both ends among them if there are so many.
func numbers(n int) []int64 {
	l := make([]int64, n)
	for i := range l {
		l[i] = int64(i*i) - 7
	}
	if n > 2 {
		l[1], l[2] = math.MinInt64, math.MaxInt64
	}
	return l
}

// size is all lengths multiplied, reckoned here anew.
func size(d []int) int {
	n := 1
	for _, length := range d {
		n *= length
	}
	return n
}

// sample is a cell of axes that may be.
func sample(d []int) api.Cell {
	return api.Cell{Dims: d, Vals: numbers(size(d))}
}

// broken are cells that may not be.
func broken() []api.Cell {
	all := []api.Cell{
		{}, {Dims: []int{}, Vals: []int64{}}, {Vals: []int64{1, 2}}, {Dims: []int{2}}, {Dims: []int{2}, Vals: []int64{1}},
		{Dims: []int{2}, Vals: []int64{1, 2, 3}}, {Dims: []int{0}, Vals: []int64{1}}, {Dims: []int{2, 0}, Vals: []int64{1, 2}},
		{Dims: []int{2, 2}, Vals: []int64{1, 2, 3}},
	}
	for _, d := range wrong() {
		all = append(all, api.Cell{Dims: d})
		if n := size(d); n >= 0 && n < 100 {
			all = append(all, api.Cell{Dims: d, Vals: numbers(n)})
		}
	}
	return all
}

func equal(c api.Cell, dims []int, vals []int64) bool {
	return slices.Equal(c.Dims, dims) && slices.Equal(c.Vals, vals)
}

func checkCell(t *testing.T, what string, got api.Cell, dims []int, vals []int64) {
	t.Helper()
	if !equal(got, dims, vals) {
		t.Errorf("%s: got %v, want %v %v", what, got, dims, vals)
	}
}

// checkFault holds an answer beside an error against the zero value.
func checkFault(t *testing.T, what string, got api.Cell, e, want api.Errno) {
	t.Helper()
	if e != want || got.Dims != nil || got.Vals != nil {
		t.Errorf("%s: got %v, %d, want nothing, %d", what, got, e, want)
	}
}

func TestRight(t *testing.T) {
	for _, d := range samples() {
		if !Right(sample(d)) {
			t.Errorf("Right of the axes %v is false", d)
		}
		if c := sample(d); Right(api.Cell{Dims: d, Vals: append(c.Vals, 1)}) {
			t.Errorf("Right of the axes %v with a number more", d)
		}
		if n := size(d); n > 0 && Right(api.Cell{Dims: d, Vals: numbers(n - 1)}) {
			t.Errorf("Right of the axes %v with a number less", d)
		}
	}
	for _, c := range broken() {
		if Right(c) {
			t.Errorf("Right(%v) is true", c)
		}
	}
}

func TestSame(t *testing.T) {
	for _, x := range []struct {
		a, b api.Cell
		same bool
	}{
		{api.Cell{Dims: []int{2}, Vals: []int64{1, 2}}, api.Cell{Dims: []int{2}, Vals: []int64{1, 2}}, true},
		{api.Cell{Dims: []int{2}, Vals: []int64{1, 2}}, api.Cell{Dims: []int{2}, Vals: []int64{2, 1}}, false},
		{api.Cell{Dims: []int{2, 3}, Vals: numbers(6)}, api.Cell{Dims: []int{3, 2}, Vals: numbers(6)}, false},
		{api.Cell{Dims: []int{1}, Vals: []int64{5}}, api.Cell{Vals: []int64{5}}, false},
		{api.Cell{Dims: []int{1}, Vals: []int64{5}}, api.Cell{Dims: []int{1, 1}, Vals: []int64{5}}, false},
		{api.Cell{Dims: []int{}, Vals: []int64{5}}, api.Cell{Vals: []int64{5}}, true},
		{api.Cell{Dims: []int{0}}, api.Cell{Dims: []int{0}, Vals: []int64{}}, true},
		{api.Cell{Dims: []int{0}}, api.Cell{Dims: []int{2, 0}}, false},
		{api.Cell{Dims: []int{0}}, api.Cell{}, false},
		{api.Cell{}, api.Cell{}, true},
		{api.Cell{}, api.Cell{Vals: []int64{0}}, false},
		{api.Cell{Dims: []int{2}, Vals: []int64{1}}, api.Cell{Dims: []int{2}, Vals: []int64{1, 2}}, false},
	} {
		if Same(x.a, x.b) != x.same || Same(x.b, x.a) != x.same {
			t.Errorf("Same(%v, %v) is not %v", x.a, x.b, x.same)
		}
	}
}

func TestAt(t *testing.T) {
	for _, d := range samples() {
		c := sample(d)
		for i, want := range c.Vals {
			place := shape.Place(d, i)
			if got, ok := At(c, place); got != want || !ok {
				t.Errorf("At(%v, %v): got %d, %v, want %d", c, place, got, ok, want)
			}
		}
	}
	if got, ok := At(Scalar(8), nil); got != 8 || !ok {
		t.Errorf("At of a single number: %d, %v", got, ok)
	}
}

func TestAtOfWhatIsNoPlace(t *testing.T) {
	c := sample([]int{2, 3})
	for _, place := range [][]int{nil, {1}, {0, 0, 0}, {2, 0}, {0, 3}, {-1, 0}, {1, -1}, {math.MaxInt, 0}, {0, math.MinInt}} {
		if n, ok := At(c, place); n != 0 || ok {
			t.Errorf("At(%v): got %d, %v", place, n, ok)
		}
	}
	if n, ok := At(Scalar(8), []int{0}); n != 0 || ok {
		t.Errorf("At of a single number with an axis: %d, %v", n, ok)
	}
	if n, ok := At(sample([]int{2, 0}), []int{0, 0}); n != 0 || ok {
		t.Errorf("At of a cell without numbers: %d, %v", n, ok)
	}
	for _, c := range broken() {
		if n, ok := At(c, make([]int, len(c.Dims))); n != 0 || ok {
			t.Errorf("At of %v: got %d, %v", c, n, ok)
		}
	}
}

func TestOf(t *testing.T) {
	for _, d := range samples() {
		vals := numbers(size(d))
		c, e := Of(d, vals...)
		if e != api.OK {
			t.Errorf("Of(%v): %d", d, e)
		}
		checkCell(t, "Of", c, d, vals)
		more, e := Of(d, append(vals, 0)...)
		checkFault(t, "Of with a number more", more, e, api.ErrLength)
		if len(vals) > 0 {
			fewer, e := Of(d, vals[1:]...)
			checkFault(t, "Of with a number less", fewer, e, api.ErrLength)
		}
	}
	for _, d := range wrong() {
		c, e := Of(d)
		checkFault(t, "Of axes that may not be", c, e, api.ErrArg)
		c, e = Of(d, 1, 2, 3)
		checkFault(t, "Of axes that may not be, with numbers", c, e, api.ErrArg)
	}
	c, e := Of(nil)
	checkFault(t, "Of no axes and no numbers", c, e, api.ErrLength)
}

func TestScalar(t *testing.T) {
	for _, n := range []int64{0, 5, -1, math.MaxInt64, math.MinInt64} {
		checkCell(t, "Scalar", Scalar(n), nil, []int64{n})
	}
}

func TestList(t *testing.T) {
	for n := range api.MaxSize + 1 {
		l := numbers(n)
		c, e := List(l)
		if e != api.OK {
			t.Errorf("List of %d: %d", n, e)
		}
		checkCell(t, "List", c, []int{n}, l)
	}
	for _, n := range []int{65, 66, 1000} {
		c, e := List(numbers(n))
		checkFault(t, "List of too many", c, e, api.ErrSize)
	}
	c, e := List(nil)
	if e != api.OK || !Right(c) {
		t.Errorf("List of none: %v, %d", c, e)
	}
}

func TestZero(t *testing.T) {
	for _, d := range samples() {
		checkCell(t, "Zero", Zero(d), d, make([]int64, size(d)))
	}
	for _, d := range wrong() {
		checkFault(t, "Zero of axes that may not be", Zero(d), api.OK, api.OK)
	}
}

func TestItem(t *testing.T) {
	for _, d := range samples() {
		if len(d) == 0 {
			continue
		}
		c := sample(d)
		for i := range d[0] {
			var want []int64
			for index, n := range c.Vals {
				if shape.Place(d, index)[0] == i {
					want = append(want, n)
				}
			}
			got, ok := Item(c, i)
			if !ok || !Right(got) {
				t.Errorf("Item(%v, %d): %v, %v", c, i, got, ok)
			}
			checkCell(t, "Item", got, d[1:], want)
		}
	}
	c, ok := Item(api.Cell{Dims: []int{2, 2}, Vals: []int64{1, 2, 3, 4}}, 1)
	if !ok || !equal(c, []int{2}, []int64{3, 4}) {
		t.Errorf("the chapter's example: %v, %v", c, ok)
	}
}

func checkNoItem(t *testing.T, c api.Cell, i int) {
	t.Helper()
	if got, ok := Item(c, i); ok || got.Dims != nil || got.Vals != nil {
		t.Errorf("Item(%v, %d): got %v, %v", c, i, got, ok)
	}
}

func TestItemThatThereIsNot(t *testing.T) {
	for _, d := range samples() {
		length := 0
		if len(d) > 0 {
			length = d[0]
		}
		for _, i := range []int{-1, length, length + 1, math.MaxInt, math.MinInt} {
			checkNoItem(t, sample(d), i)
		}
	}
	checkNoItem(t, Scalar(4), 0)
	for _, c := range broken() {
		checkNoItem(t, c, 0)
	}
}

func TestStack(t *testing.T) {
	one := api.Cell{Dims: []int{2}, Vals: []int64{1, 2}}
	two := api.Cell{Dims: []int{2}, Vals: []int64{3, 4}}
	none := api.Cell{Dims: []int{64, 0}}
	for _, x := range []struct {
		l    []api.Cell
		dims []int
		vals []int64
	}{
		{[]api.Cell{Scalar(7)}, []int{1}, []int64{7}},
		{[]api.Cell{Scalar(7), Scalar(-8), Scalar(9)}, []int{3}, []int64{7, -8, 9}},
		{[]api.Cell{one}, []int{1, 2}, []int64{1, 2}},
		{[]api.Cell{two, one, two}, []int{3, 2}, []int64{3, 4, 1, 2, 3, 4}},
		{[]api.Cell{sample([]int{2, 2}), sample([]int{2, 2})}, []int{2, 2, 2}, append(numbers(4), numbers(4)...)},
		{[]api.Cell{Zero([]int{0}), Zero([]int{0})}, []int{2, 0}, nil},
		{[]api.Cell{none}, []int{1, 64, 0}, nil},
		{slices.Repeat([]api.Cell{none}, 64), []int{64, 64, 0}, nil},
		{slices.Repeat([]api.Cell{Scalar(1)}, 64), []int{64}, slices.Repeat([]int64{1}, 64)},
		{slices.Repeat([]api.Cell{one}, 32), []int{32, 2}, slices.Repeat(one.Vals, 32)},
	} {
		got, e := Stack(x.l...)
		if e != api.OK || !Right(got) {
			t.Errorf("Stack of %d: %v, %d", len(x.l), got, e)
		}
		checkCell(t, "Stack", got, x.dims, x.vals)
	}
}

func TestStackOfWhatMayNotBe(t *testing.T) {
	one := api.Cell{Dims: []int{2}, Vals: []int64{1, 2}}
	deep := sample([]int{1, 1, 1})
	for _, x := range []struct {
		what string
		l    []api.Cell
		e    api.Errno
	}{
		{"none", nil, api.ErrArg},
		{"unlike lengths", []api.Cell{one, sample([]int{3})}, api.ErrLength},
		{"unlike at the end", []api.Cell{one, one, Scalar(1)}, api.ErrLength},
		{"as many numbers, unlike axes", []api.Cell{sample([]int{2, 3}), sample([]int{3, 2})}, api.ErrLength},
		{"no numbers, unlike axes", []api.Cell{Zero([]int{0}), Zero([]int{0, 2})}, api.ErrLength},
		{"four axes", []api.Cell{deep}, api.ErrSize},
		{"four axes, no number", []api.Cell{Zero([]int{0, 1, 2})}, api.ErrSize},
		{"65 single ones", slices.Repeat([]api.Cell{Scalar(1)}, 65), api.ErrSize},
		{"65 empty ones", slices.Repeat([]api.Cell{Zero([]int{0})}, 65), api.ErrSize},
		{"66 numbers", slices.Repeat([]api.Cell{one}, 33), api.ErrSize},
		{"unlike ahead of too many", append(slices.Repeat([]api.Cell{one}, 40), Scalar(1)), api.ErrLength},
		{"unlike ahead of four axes", []api.Cell{deep, sample([]int{1, 1, 2})}, api.ErrLength},
		{"wrong ahead of unlike", []api.Cell{one, Scalar(1), {}}, api.ErrArg},
		{"wrong ahead of too many", append(slices.Repeat([]api.Cell{one}, 40), api.Cell{}), api.ErrArg},
	} {
		got, e := Stack(x.l...)
		checkFault(t, x.what, got, e, x.e)
	}
	for _, c := range broken() {
		for _, l := range [][]api.Cell{{c}, {c, c}, {one, c}, {c, one}} {
			got, e := Stack(l...)
			checkFault(t, "a cell that may not be", got, e, api.ErrArg)
		}
	}
}

func TestItemsStackedAreTheCell(t *testing.T) {
	for _, d := range samples() {
		if len(d) == 0 || d[0] == 0 {
			continue
		}
		c := sample(d)
		var items []api.Cell
		var laid []int64
		for i := range d[0] {
			item, _ := Item(c, i)
			items = append(items, item)
			laid = append(laid, item.Vals...)
		}
		if got, e := Stack(items...); e != api.OK || !Same(got, c) {
			t.Errorf("Stack of the Items of %v: %v, %d", c, got, e)
		}
		// A place behind another Item's is in a later Item.
		if !slices.Equal(laid, c.Vals) {
			t.Errorf("the Items of %v, one behind the other: %v", c, laid)
		}
	}
}

// spoil writes into all that a cell has, and behind it as far as that goes.
func spoil(c api.Cell) {
	for i := range c.Dims {
		c.Dims[i] = -99
	}
	for i := range c.Vals {
		c.Vals[i] = -99
	}
	_ = append(c.Vals, -99, -99, -99)
	_ = append(c.Dims, -99, -99, -99)
}

func TestAnswersAreNewMemory(t *testing.T) {
	dims, vals := []int{2, 2}, []int64{1, 2, 3, 4}
	c := api.Cell{Dims: dims, Vals: vals}
	made, _ := Of(dims, vals...)
	spoil(made)
	list, _ := List(vals)
	spoil(list)
	short, _ := List(vals[:2])
	spoil(short)
	spoil(Zero(dims))
	for i := range 2 {
		item, _ := Item(c, i)
		spoil(item)
	}
	stacked, _ := Stack(c)
	spoil(stacked)
	stacked, _ = Stack(c, c)
	spoil(stacked)
	checkCell(t, "what was handed in", c, []int{2, 2}, []int64{1, 2, 3, 4})
}

func TestArgumentsAreNotKept(t *testing.T) {
	dims, vals := []int{2, 2}, []int64{1, 2, 3, 4}
	c := api.Cell{Dims: dims, Vals: vals}
	made, _ := Of(dims, vals...)
	list, _ := List(vals)
	zero := Zero(dims)
	item, _ := Item(c, 1)
	stacked, _ := Stack(item, item)
	single, _ := Stack(c)
	_, e := Stack(c, c)
	spoil(c)
	checkCell(t, "Of", made, []int{2, 2}, []int64{1, 2, 3, 4})
	checkCell(t, "List", list, []int{4}, []int64{1, 2, 3, 4})
	checkCell(t, "Zero", zero, []int{2, 2}, make([]int64, 4))
	checkCell(t, "Item", item, []int{2}, []int64{3, 4})
	checkCell(t, "Stack of one", single, []int{1, 2, 2}, []int64{1, 2, 3, 4})
	spoil(item)
	checkCell(t, "Stack", stacked, []int{2, 2}, []int64{3, 4, 3, 4})
	if e != api.OK {
		t.Errorf("Stack of one cell twice: %d", e)
	}
}
