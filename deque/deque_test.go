package deque

import (
	"math"
	"slices"
	"testing"

	"riffle/api"
)

const least, greatest = math.MinInt64, math.MaxInt64

// fresh tells a window that may be, and what it is to be.
func fresh(t *testing.T, least bool, most int) (*Deque, *queue) {
	t.Helper()
	d, e := New(least, most)
	if d == nil || e != api.OK {
		t.Fatalf("New(%t, %d): got %v, %d", least, most, d, e)
	}
	return d, &queue{least: least, most: most}
}

// queue is what a window is to be: all numbers that came and did not go.
type queue struct {
	least bool
	most  int
	nums  []int64
}

func (q *queue) push(n int64) api.Errno {
	if len(q.nums) == q.most {
		return api.ErrFull
	}
	q.nums = append(slices.Clone(q.nums), n)
	return api.OK
}

func (q *queue) drop() bool {
	there := len(q.nums) > 0
	if there {
		q.nums = q.nums[1:]
	}
	return there
}

func (q *queue) best() (int64, bool) {
	switch {
	case len(q.nums) == 0:
		return 0, false
	case q.least:
		return slices.Min(q.nums), true
	}
	return slices.Max(q.nums), true
}

// kept follows the chapter's words: it holds each number against all behind it.
func (q *queue) kept() []int64 {
	var l []int64
	for i, n := range q.nums {
		if !slices.ContainsFunc(q.nums[i+1:], func(x int64) bool { return beaten(q.least, n, x) }) {
			l = append(l, n)
		}
	}
	return l
}

// beaten tells whether a number is by one behind it.
func beaten(least bool, n, behind int64) bool {
	if least {
		return behind <= n
	}
	return behind >= n
}

// checkDeque holds all that a window tells against what it is to be; twice,
// since to be asked changes nothing.
func checkDeque(t *testing.T, what string, d *Deque, q *queue) {
	t.Helper()
	want, there := q.best()
	for range 2 {
		if n, ok := d.Best(); n != want || ok != there {
			t.Fatalf("%s: Best of %d: got %d, %t, want %d, %t", what, q.nums, n, ok, want, there)
		}
		if got := d.Kept(); !slices.Equal(got, q.kept()) {
			t.Fatalf("%s: Kept of %d: got %d, want %d", what, q.nums, got, q.kept())
		}
		if d.Len() != len(q.nums) {
			t.Fatalf("%s: Len of %d: got %d", what, q.nums, d.Len())
		}
	}
}

// checkPush lets a number come to both, and checkDrop lets the first one go.
func checkPush(t *testing.T, d *Deque, q *queue, n int64) {
	t.Helper()
	ahead := slices.Clone(q.nums)
	want := q.push(n)
	if e := d.Push(n); e != want {
		t.Fatalf("Push of %d to %d: got %d, want %d", n, ahead, e, want)
	}
	checkDeque(t, "behind Push", d, q)
}

func checkDrop(t *testing.T, d *Deque, q *queue) {
	t.Helper()
	want := q.drop()
	if ok := d.Drop(); ok != want {
		t.Fatalf("Drop, with %d left: got %t, want %t", q.nums, ok, want)
	}
	checkDeque(t, "behind Drop", d, q)
}

// both tells the two kinds of windows.
func both() []bool {
	return []bool{false, true}
}

func TestNew(t *testing.T) {
	for _, x := range []struct {
		most int
		e    api.Errno
	}{
		{1, api.OK}, {2, api.OK}, {3, api.OK}, {63, api.OK}, {64, api.OK},
		{0, api.ErrArg}, {-1, api.ErrArg}, {-64, api.ErrArg}, {65, api.ErrArg}, {1 << 32, api.ErrArg}, {1<<32 + 1, api.ErrArg}, {math.MaxInt, api.ErrArg}, {math.MinInt, api.ErrArg},
	} {
		for _, least := range both() {
			d, e := New(least, x.most)
			if e != x.e || (d != nil) != (e == api.OK) {
				t.Errorf("New(%t, %d): got %v, %d, want %d", least, x.most, d, e, x.e)
			}
			if d != nil {
				checkDeque(t, "a new one", d, &queue{least: least, most: x.most})
			}
		}
	}
}

// checkByHand holds what is kept against numbers that were written by hand.
func checkByHand(t *testing.T, d *Deque, best int64, length int, kept ...int64) {
	t.Helper()
	if l := d.Kept(); !slices.Equal(l, kept) {
		t.Errorf("Kept: got %d, want %d", l, kept)
	}
	if n, ok := d.Best(); n != best || !ok || d.Len() != length {
		t.Errorf("Best: got %d, %t, a Len of %d, want %d, %d", n, ok, d.Len(), best, length)
	}
}

func TestTheGreatestByHand(t *testing.T) {
	d, _ := fresh(t, false, 3)
	for _, n := range []int64{5, 3, 4} {
		if e := d.Push(n); e != api.OK {
			t.Errorf("Push %d: got %d", n, e)
		}
	}
	checkByHand(t, d, 5, 3, 5, 4)
	if e := d.Push(9); e != api.ErrFull {
		t.Errorf("Push where there is no room: got %d", e)
	}
	checkByHand(t, d, 5, 3, 5, 4)
	if !d.Drop() {
		t.Error("Drop: got false")
	}
	checkByHand(t, d, 4, 2, 4)
	if e := d.Push(-1); e != api.OK {
		t.Errorf("Push -1: got %d", e)
	}
	checkByHand(t, d, 4, 3, 4, -1)
	for range 2 {
		d.Drop()
	}
	checkByHand(t, d, -1, 1, -1)
	if !d.Drop() || d.Drop() || d.Len() != 0 || len(d.Kept()) != 0 {
		t.Error("Drop of the last one, and of none")
	}
}

func TestTheLeastByHand(t *testing.T) {
	d, _ := fresh(t, true, 4)
	for _, n := range []int64{3, 1, 4, 2} {
		if e := d.Push(n); e != api.OK {
			t.Errorf("Push %d: got %d", n, e)
		}
	}
	checkByHand(t, d, 1, 4, 1, 2)
	d.Drop()
	checkByHand(t, d, 1, 3, 1, 2)
	d.Drop()
	checkByHand(t, d, 2, 2, 2)
	d.Push(7)
	checkByHand(t, d, 2, 3, 2, 7)
}

func TestOfThoseAsGreatTheLastIsKept(t *testing.T) {
	for _, least := range both() {
		d, q := fresh(t, least, 4)
		for range 4 {
			checkPush(t, d, q, 7)
			checkByHand(t, d, 7, len(q.nums), 7)
		}
		for range 3 {
			checkDrop(t, d, q)
			checkByHand(t, d, 7, len(q.nums), 7)
		}
		checkDrop(t, d, q)
		if n, ok := d.Best(); n != 0 || ok {
			t.Errorf("Best of none: got %d, %t", n, ok)
		}
	}
}

func TestOfNil(t *testing.T) {
	var d *Deque
	for _, n := range []int64{0, 5, least, greatest} {
		if e := d.Push(n); e != api.ErrArg {
			t.Errorf("Push: got %d", e)
		}
	}
	if n, ok := d.Best(); n != 0 || ok {
		t.Errorf("Best: got %d, %t", n, ok)
	}
	if d.Drop() || d.Len() != 0 || len(d.Kept()) != 0 || d.Clone() != nil {
		t.Errorf("got a Len of %d, Kept %d, a Clone %v", d.Len(), d.Kept(), d.Clone())
	}
}

func TestAllShortRunsOfCalls(t *testing.T) {
	const most, kinds = 7, 4
	runs := 1
	for range most {
		runs *= kinds
	}
	for _, least := range both() {
		for _, room := range []int{1, 2, 3, 5} {
			for run := range runs {
				d, q := fresh(t, least, room)
				for range most {
					if kind := run % kinds; kind > 0 {
						checkPush(t, d, q, int64(kind))
					} else {
						checkDrop(t, d, q)
					}
					run /= kinds
				}
			}
		}
	}
}

// courses are ways in which numbers come: they rise, fall, go up and down, are
// the same for a while, or stand at the ends.
func courses() []func(i int64) int64 {
	return []func(i int64) int64{
		func(i int64) int64 { return i },
		func(i int64) int64 { return -i },
		func(i int64) int64 { return i*i%17 - 8 },
		func(i int64) int64 { return i / 5 % 3 },
		func(i int64) int64 { return i * math.MaxInt64 / 3 * 5 },
		func(i int64) int64 { return []int64{least, greatest, 0, least + 1, greatest - 1, -1}[i*i%6] },
		func(i int64) int64 { return i * -7046029254386353131 },
	}
}

func TestHoweverManyCameAndWent(t *testing.T) {
	for _, least := range both() {
		for _, room := range []int{1, 2, 3, 7, 31, 32, 63, 64} {
			for _, course := range courses() {
				d, q := fresh(t, least, room)
				next := int64(0)
				for i := range 40 {
					for range i*7%(room+2) + 1 {
						next++
						checkPush(t, d, q, course(next))
					}
					for range i * 5 % (room + 3) {
						checkDrop(t, d, q)
					}
				}
			}
		}
	}
}

// TestAWindowThatMovesOn lets far more numbers through than there is room for,
// and looks whether the memory that is held stays within the room's bounds.
func TestAWindowThatMovesOn(t *testing.T) {
	for _, least := range both() {
		for _, course := range courses() {
			d, q := fresh(t, least, 8)
			for i := range int64(3000) {
				if len(q.nums) == 8 {
					checkDrop(t, d, q)
				}
				checkPush(t, d, q, course(i))
			}
			if cap(d.kept) > 2*8 {
				t.Errorf("there is memory for %d numbers", cap(d.kept))
			}
		}
	}
}

func TestTheFirstKeptIsTheBestAndTheyRiseOrFall(t *testing.T) {
	for _, least := range both() {
		for _, course := range courses() {
			d, q := fresh(t, least, 16)
			for i := range int64(300) {
				if i*i%7 < 3 {
					checkDrop(t, d, q)
				} else {
					checkPush(t, d, q, course(i))
				}
				l := d.Kept()
				if n, ok := d.Best(); ok != (len(l) > 0) || ok && n != l[0] {
					t.Fatalf("Kept is %d, Best %d, %t", l, n, ok)
				}
				for j := 1; j < len(l); j++ {
					if l[j-1] == l[j] || (l[j-1] < l[j]) != least {
						t.Fatalf("Kept is %d", l)
					}
				}
			}
		}
	}
}

// TestKeptTillBeatenOrDropped goes by the steps: from call to call, those alone
// are no more Kept that the number beats that comes, or the one that goes.
func TestKeptTillBeatenOrDropped(t *testing.T) {
	const room = 9
	for _, least := range both() {
		for _, course := range courses() {
			d, q := fresh(t, least, room)
			for i := range int64(400) {
				want, goes := d.Kept(), i*i%11 < 4 || d.Len() == room
				if goes && len(q.nums) > 0 {
					first := q.nums[0]
					if !slices.ContainsFunc(q.nums[1:], func(x int64) bool { return beaten(least, first, x) }) {
						want = want[1:]
					}
				}
				if goes {
					checkDrop(t, d, q)
				} else {
					n := course(i)
					checkPush(t, d, q, n)
					want = append(slices.DeleteFunc(want, func(x int64) bool { return beaten(least, x, n) }), n)
				}
				if got := d.Kept(); !slices.Equal(got, want) {
					t.Fatalf("Kept: got %d, want %d", got, want)
				}
			}
		}
	}
}

func TestWhatIsFullIsNotChanged(t *testing.T) {
	for _, room := range []int{1, 2, 64} {
		for _, isLeast := range both() {
			d, q := fresh(t, isLeast, room)
			for i := range int64(room) {
				checkPush(t, d, q, i*i%5)
			}
			for _, n := range []int64{0, 2, 4, least, greatest} {
				if e := d.Push(n); e != api.ErrFull {
					t.Errorf("Push of %d: got %d", n, e)
				}
				checkDeque(t, "behind a Push without room", d, q)
			}
			checkDrop(t, d, q)
			checkPush(t, d, q, 3)
			checkPush(t, d, q, 3)
		}
	}
}

func TestAnswersAreNew(t *testing.T) {
	for _, least := range both() {
		d, q := fresh(t, least, 8)
		for i := range int64(4) {
			checkPush(t, d, q, i)
			checkPush(t, d, q, -i)
		}
		kept := d.Kept()
		want := slices.Clone(kept)
		checkDrop(t, d, q)
		checkPush(t, d, q, 2)
		if !slices.Equal(kept, want) {
			t.Errorf("what Kept told came to be %d", kept)
		}
		kept = d.Kept()
		for i := range kept[:cap(kept)] {
			kept[:cap(kept)][i] = 77
		}
		checkDeque(t, "behind a change of what Kept told", d, q)
		for range 8 {
			checkDrop(t, d, q)
		}
	}
}

func TestACloneIsByItself(t *testing.T) {
	for _, least := range both() {
		for goes := range 6 {
			for comes := range int64(3) {
				d, q := fresh(t, least, 4)
				for i := range int64(4) {
					checkPush(t, d, q, i*3%4)
				}
				for range goes {
					checkDrop(t, d, q)
				}
				for i := range comes {
					checkPush(t, d, q, i+1)
				}
				c, p := d.Clone(), &queue{least: least, most: 4, nums: slices.Clone(q.nums)}
				checkDeque(t, "a clone", c, p)
				for i := range int64(7) {
					checkPush(t, c, p, i*5%4)
					checkDeque(t, "what was cloned", d, q)
					checkPush(t, d, q, 3-i*3%4)
					checkDeque(t, "a clone", c, p)
					checkDrop(t, c, p)
					checkDeque(t, "what was cloned", d, q)
					checkDrop(t, d, q)
					checkDeque(t, "a clone", c, p)
				}
			}
		}
	}
}

func TestTwoWindowsHaveNothingInCommon(t *testing.T) {
	d, q := fresh(t, false, 2)
	c, p := fresh(t, true, 2)
	for _, n := range []int64{1, 2} {
		checkPush(t, d, q, n)
		checkPush(t, c, p, n)
		checkDeque(t, "the one", d, q)
	}
	checkDrop(t, d, q)
	checkDeque(t, "the other one", c, p)
}
