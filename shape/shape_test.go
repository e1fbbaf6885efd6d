package shape

import (
	"math"
	"slices"
	"testing"
)

// samples are axes that may be: all kinds of ranks, with noughts and ones.
func samples() [][]int {
	all := [][]int{nil, {}}
	lengths := []int{0, 1, 2, 3, 4, 5, 8, 32, 64}
	for _, a := range lengths {
		all = append(all, []int{a})
		for _, b := range lengths {
			if a*b <= 64 {
				all = append(all, []int{a, b})
			}
			for _, c := range lengths {
				if a*b*c <= 64 {
					all = append(all, []int{a, b, c})
				}
			}
		}
	}
	return all
}

// wrong are axes that may not be.
func wrong() [][]int {
	return [][]int{
		{-1}, {65}, {2, -1}, {-1, -1}, {-2, 0}, {0, -2}, {0, 65}, {65, 0}, {8, 9}, {64, 2}, {5, 13}, {4, 4, 5},
		{1, 1, 1, 1}, {0, 0, 0, 0}, {0, 1, 2, 3, 4},
		{math.MaxInt}, {math.MinInt}, {math.MaxInt, 0}, {math.MinInt, 2}, {1 << 32, 1 << 32}, {1 << 62, 4, 1},
	}
}

// places tells all places of axes that may be, by going on from one to the
// next as a mileage counter does.
func places(d []int) [][]int {
	if slices.Contains(d, 0) {
		return nil
	}
	var all [][]int
	place := make([]int, len(d))
	for {
		all = append(all, slices.Clone(place))
		axis := len(d) - 1
		for axis >= 0 && place[axis] == d[axis]-1 {
			place[axis] = 0
			axis--
		}
		if axis < 0 {
			return all
		}
		place[axis]++
	}
}

func check(t *testing.T, what string, got, want []int) {
	t.Helper()
	if !slices.Equal(got, want) {
		t.Errorf("%s: got %v, want %v", what, got, want)
	}
}

func TestRightSizeOfAxesThatMayBe(t *testing.T) {
	for _, d := range samples() {
		if !Right(d) {
			t.Errorf("Right(%v) is false", d)
		}
		if got, want := Size(d), len(places(d)); got != want {
			t.Errorf("Size(%v): got %d, want %d", d, got, want)
		}
	}
	for _, x := range []struct {
		d    []int
		size int
	}{{nil, 1}, {[]int{}, 1}, {[]int{0}, 0}, {[]int{64}, 64}, {[]int{8, 8}, 64}, {[]int{4, 4, 4}, 64}, {[]int{7, 9}, 63},
		{[]int{64, 64, 0}, 0}, {[]int{0, 64, 64}, 0}, {[]int{64, 0, 64}, 0}, {[]int{64, 1, 1}, 64}} {
		if !Right(x.d) || Size(x.d) != x.size {
			t.Errorf("%v: got %v, %d, want true, %d", x.d, Right(x.d), Size(x.d), x.size)
		}
	}
}

func TestRightSizeOfAxesThatMayNotBe(t *testing.T) {
	for _, d := range wrong() {
		if Right(d) || Size(d) != 0 {
			t.Errorf("%v: got %v, %d, want false, 0", d, Right(d), Size(d))
		}
	}
}

func TestSame(t *testing.T) {
	for _, x := range []struct {
		a, b []int
		same bool
	}{
		{nil, nil, true}, {nil, []int{}, true}, {[]int{}, nil, true}, {[]int{2, 3}, []int{2, 3}, true},
		{[]int{2, 3}, []int{3, 2}, false}, {[]int{2}, []int{2, 1}, false}, {[]int{2, 1}, []int{2}, false},
		{nil, []int{0}, false}, {[]int{1}, nil, false}, {[]int{2, 3, 4}, []int{2, 3, 5}, false},
		{[]int{-1, 99, 0, 1, 2}, []int{-1, 99, 0, 1, 2}, true}, {[]int{-1}, []int{1}, false},
	} {
		if Same(x.a, x.b) != x.same {
			t.Errorf("Same(%v, %v) is not %v", x.a, x.b, x.same)
		}
	}
}

func TestIndexCountsPlacesAhead(t *testing.T) {
	for _, d := range samples() {
		for ahead, place := range places(d) {
			if got := Index(d, place); got != ahead {
				t.Errorf("Index(%v, %v): got %d, want %d", d, place, got, ahead)
			}
		}
	}
	if Index([]int{2, 3}, []int{1, 0}) != 3 {
		t.Error("the chapter's example")
	}
}

func TestIndexOfWhatIsNoPlace(t *testing.T) {
	for _, x := range []struct{ d, place []int }{
		{nil, []int{0}}, {[]int{2}, nil}, {[]int{2, 3}, []int{1}}, {[]int{2, 3}, []int{1, 2, 0}},
		{[]int{2, 3}, []int{2, 0}}, {[]int{2, 3}, []int{1, 3}}, {[]int{2, 3}, []int{-1, 0}}, {[]int{2, 3}, []int{1, -1}},
		{[]int{0}, []int{0}}, {[]int{0}, []int{-1}}, {[]int{2, 0}, []int{1, 0}}, {[]int{0, 2}, []int{0, 1}},
		{[]int{64, 64, 0}, []int{63, 63, 0}},
		{[]int{2}, []int{math.MaxInt}}, {[]int{2}, []int{math.MinInt}}, {[]int{2, 2}, []int{1, math.MinInt}},
	} {
		if got := Index(x.d, x.place); got != -1 {
			t.Errorf("Index(%v, %v): got %d, want -1", x.d, x.place, got)
		}
	}
	for _, d := range wrong() {
		if got := Index(d, make([]int, len(d))); got != -1 {
			t.Errorf("Index(%v, noughts): got %d, want -1", d, got)
		}
	}
}

func TestPlace(t *testing.T) {
	for _, d := range samples() {
		all := places(d)
		for i, place := range all {
			check(t, "Place", Place(d, i), place)
		}
		for _, i := range []int{-1, len(all), len(all) + 1, math.MaxInt, math.MinInt} {
			check(t, "Place that there isn't", Place(d, i), nil)
		}
	}
	for _, d := range wrong() {
		for _, i := range []int{-1, 0, 1, 64, math.MaxInt, math.MinInt} {
			check(t, "Place of axes that may not be", Place(d, i), nil)
		}
	}
}

func TestStrides(t *testing.T) {
	for _, x := range []struct{ d, want []int }{
		{nil, nil}, {[]int{5}, []int{1}}, {[]int{0}, []int{1}}, {[]int{2, 3}, []int{3, 1}}, {[]int{2, 3, 4}, []int{12, 4, 1}},
		{[]int{2, 0, 4}, []int{0, 4, 1}}, {[]int{0, 64, 64}, []int{4096, 64, 1}}, {[]int{64, 64, 0}, []int{0, 0, 1}},
	} {
		check(t, "Strides", Strides(x.d), x.want)
	}
	for _, d := range wrong() {
		check(t, "Strides of axes that may not be", Strides(d), nil)
	}
}

func TestStridesAreStepsOfTheIndex(t *testing.T) {
	for _, d := range samples() {
		strides := Strides(d)
		if len(strides) != len(d) {
			t.Fatalf("Strides(%v) are %v", d, strides)
		}
		for _, place := range places(d) {
			for axis := range d {
				next := slices.Clone(place)
				next[axis]++
				if next[axis] < d[axis] && Index(d, next)-Index(d, place) != strides[axis] {
					t.Errorf("Strides(%v)[%d]: %d", d, axis, strides[axis])
				}
			}
		}
	}
}

func TestWithoutAndWith(t *testing.T) {
	for _, x := range []struct {
		d             []int
		axis          int
		without, with []int
	}{
		{[]int{2, 3, 4}, 0, []int{3, 4}, []int{9, 3, 4}},
		{[]int{2, 3, 4}, 1, []int{2, 4}, []int{2, 9, 4}},
		{[]int{2, 3, 4}, 2, []int{2, 3}, []int{2, 3, 9}},
		{[]int{5}, 0, nil, []int{9}},
		{[]int{2, 3}, 2, []int{2, 3}, []int{2, 3}},
		{[]int{2, 3}, -1, []int{2, 3}, []int{2, 3}},
		{[]int{2, 3}, math.MaxInt, []int{2, 3}, []int{2, 3}},
		{[]int{2, 3}, math.MinInt, []int{2, 3}, []int{2, 3}},
		{nil, 0, nil, nil}, {nil, -1, nil, nil},
		{[]int{-1, 99, 0, 7, 7}, 3, []int{-1, 99, 0, 7}, []int{-1, 99, 0, 9, 7}},
	} {
		check(t, "Without", Without(x.d, x.axis), x.without)
		check(t, "With", With(x.d, x.axis, 9), x.with)
	}
	check(t, "With any length", With([]int{2, 3}, 1, math.MinInt), []int{2, math.MinInt})
}

func TestTurned(t *testing.T) {
	for _, x := range []struct{ d, want []int }{
		{nil, nil}, {[]int{4}, []int{4}}, {[]int{2, 3}, []int{3, 2}}, {[]int{2, 3, 4}, []int{4, 3, 2}},
		{[]int{-1, 99, 0, 7, 5}, []int{5, 7, 0, 99, -1}},
	} {
		check(t, "Turned", Turned(x.d), x.want)
	}
}

func TestPerm(t *testing.T) {
	for _, p := range [][]int{nil, {}, {0}, {0, 1}, {1, 0}, {1, 2, 0}, {4, 2, 0, 1, 3}} {
		if !Perm(p) {
			t.Errorf("Perm(%v) is false", p)
		}
	}
	for _, p := range [][]int{{1}, {-1}, {0, 0}, {1, 1}, {0, 2}, {1, 2}, {0, -1}, {1, 2, 1}, {0, 1, 3}, {0, 1, 2, 2},
		{math.MaxInt}, {math.MinInt, 0}} {
		if Perm(p) {
			t.Errorf("Perm(%v) is true", p)
		}
	}
}

func TestPicked(t *testing.T) {
	for _, x := range []struct{ d, p, want []int }{
		{nil, nil, nil}, {[]int{5}, []int{0}, []int{5}}, {[]int{2, 3}, []int{1, 0}, []int{3, 2}},
		{[]int{4, 5, 6}, []int{1, 2, 0}, []int{6, 4, 5}}, {[]int{4, 5, 6}, []int{2, 0, 1}, []int{5, 6, 4}},
		{[]int{4, 5, 6}, []int{0, 1, 2}, []int{4, 5, 6}},
		{[]int{-1, 99, 0, 7, 5}, []int{4, 3, 0, 1, 2}, []int{0, 7, 5, 99, -1}},
		{[]int{2, 3}, []int{0, 0}, nil}, {[]int{2, 3}, []int{0, 2}, nil}, {[]int{2, 3}, []int{0, -1}, nil},
		{[]int{2, 3}, []int{0}, nil}, {[]int{2}, []int{0, 1}, nil}, {nil, []int{0}, nil}, {[]int{2}, nil, nil},
		{[]int{2}, []int{math.MaxInt}, nil}, {[]int{2}, []int{math.MinInt}, nil},
	} {
		check(t, "Picked", Picked(x.d, x.p), x.want)
	}
}

func TestIndexAndPlaceUndoEachOther(t *testing.T) {
	for _, d := range samples() {
		last := []int(nil)
		for i := range Size(d) {
			place := Place(d, i)
			if Index(d, place) != i {
				t.Errorf("of %v the Index of Place %d is %d", d, i, Index(d, place))
			}
			if i > 0 && slices.Compare(last, place) >= 0 {
				t.Errorf("of %v the place %v comes behind %v", d, place, last)
			}
			last = place
		}
	}
}

func TestTurnedTwiceAndSizesThatStay(t *testing.T) {
	perms := [][]int{nil, {0}, {0, 1}, {1, 0}, {0, 1, 2}, {0, 2, 1}, {1, 0, 2}, {1, 2, 0}, {2, 0, 1}, {2, 1, 0}}
	for _, d := range samples() {
		check(t, "Turned twice", Turned(Turned(d)), d)
		if Size(Turned(d)) != Size(d) {
			t.Errorf("Size of %v, Turned", d)
		}
		for _, p := range perms {
			if len(p) == len(d) && (!Right(Picked(d, p)) || Size(Picked(d, p)) != Size(d)) {
				t.Errorf("Size of %v, Picked by %v", d, p)
			}
		}
	}
	for _, d := range wrong() {
		check(t, "Turned twice", Turned(Turned(d)), d)
		if Size(Turned(d)) != 0 {
			t.Errorf("Size of %v, Turned", d)
		}
	}
}

// TestAnswersAreNewMemory writes into all that is told: what was handed in
// must stay.
func TestAnswersAreNewMemory(t *testing.T) {
	d, p := make([]int, 0, 8), []int{1, 2, 0}
	d = append(d, 4, 5, 3)
	whole := d[:8]
	for _, told := range [][]int{
		Place(d, 7), Strides(d), Without(d, 0), Without(d, 2), Without(d, 9), With(d, 1, 7), With(d, -1, 7), Turned(d), Picked(d, p),
		Picked(d, []int{0, 1, 2}),
	} {
		for i := range told {
			told[i] = -77
		}
		_ = append(told, -78)
	}
	check(t, "axes that were handed in", whole, []int{4, 5, 3, 0, 0, 0, 0, 0})
	check(t, "a Perm that was handed in", p, []int{1, 2, 0})
}

// TestLongLists: no call panics, or goes astray, at lists of any length.
func TestLongLists(t *testing.T) {
	long := make([]int, 100000)
	for i := range long {
		long[i] = len(long) - 1 - i
	}
	if Right(long) || Size(long) != 0 || Index(long, long) != -1 || Place(long, 0) != nil || Strides(long) != nil {
		t.Error("too many axes")
	}
	if !Perm(long) || !Same(long, long) || !Same(Picked(long, long), Turned(long)) {
		t.Error("a long Perm")
	}
	if len(Without(long, 99999)) != 99999 || With(long, 99999, 5)[99999] != 5 {
		t.Error("the last axis of many")
	}
	long[0] = 0
	if Perm(long) || Picked(long, long) != nil {
		t.Error("a long list that is no Perm")
	}
}
