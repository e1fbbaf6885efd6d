package ring

import (
	"math"
	"slices"
	"testing"

	"riffle/api"
)

// fresh tells a ring that may be.
func fresh(t *testing.T, rows, width int) *Ring {
	t.Helper()
	r, e := New(rows, width)
	if r == nil || e != api.OK {
		t.Fatalf("New(%d, %d): got %v, %d", rows, width, r, e)
	}
	return r
}

// sample is a row of so many numbers, which no other one has.
func sample(n int64, width int) []int64 {
	row := make([]int64, width)
	for i := range row {
		row[i] = n*1000 + int64(i)
		if n%5 == 0 {
			row[i] = math.MinInt64 + row[i]
		}
	}
	return row
}

// queue is what a ring is to be: the rows that came and did not go.
type queue struct {
	room, width int
	rows        [][]int64
}

func (q *queue) push(row []int64) api.Errno {
	if len(row) != q.width {
		return api.ErrLength
	}
	if len(q.rows) == q.room {
		return api.ErrFull
	}
	q.rows = append(q.rows, slices.Clone(row))
	return api.OK
}

func (q *queue) pop() ([]int64, bool) {
	if len(q.rows) == 0 {
		return nil, false
	}
	row := q.rows[0]
	q.rows = q.rows[1:]
	return row, true
}

func sameRows(a, b [][]int64) bool {
	return slices.EqualFunc(a, b, slices.Equal[[]int64])
}

// checkRing holds all that a ring tells against what it is to be.
func checkRing(t *testing.T, what string, r *Ring, q *queue) {
	t.Helper()
	if got := r.Rows(); !sameRows(got, q.rows) {
		t.Fatalf("%s: Rows: got %d, want %d", what, got, q.rows)
	}
	if r.Len() != len(q.rows) || r.Len() > q.room || r.Words() != len(q.rows)*q.width {
		t.Fatalf("%s: got a Len of %d and %d Words, want %d rows of %d", what, r.Len(), r.Words(), len(q.rows), q.width)
	}
	for i, want := range q.rows {
		if row, ok := r.At(i); !ok || !slices.Equal(row, want) {
			t.Fatalf("%s: At(%d): got %d, %t, want %d", what, i, row, ok, want)
		}
	}
	for _, i := range []int{-1, -q.room, len(q.rows), len(q.rows) + 1, q.room, q.room + 1, math.MinInt, math.MaxInt} {
		if i >= 0 && i < len(q.rows) {
			continue
		}
		if row, ok := r.At(i); row != nil || ok {
			t.Fatalf("%s: At(%d): got %d, %t, want nothing", what, i, row, ok)
		}
	}
}

// checkPush lets a row come to both, and checkPop lets the first one go.
func checkPush(t *testing.T, r *Ring, q *queue, row []int64) {
	t.Helper()
	want := q.push(row)
	if e := r.Push(row); e != want {
		t.Fatalf("Push of %d numbers to %d rows: got %d, want %d", len(row), len(q.rows), e, want)
	}
	checkRing(t, "behind Push", r, q)
}

func checkPop(t *testing.T, r *Ring, q *queue) {
	t.Helper()
	want, there := q.pop()
	if row, ok := r.Pop(); ok != there || !slices.Equal(row, want) || !ok && row != nil {
		t.Fatalf("Pop: got %d, %t, want %d, %t", row, ok, want, there)
	}
	checkRing(t, "behind Pop", r, q)
}

func TestNew(t *testing.T) {
	for _, x := range []struct {
		rows, width int
		e           api.Errno
	}{
		{1, 0, api.OK}, {1, 1, api.OK}, {64, 0, api.OK}, {64, 1, api.OK}, {1, api.MaxSize, api.OK}, {64, api.MaxSize, api.OK}, {63, 63, api.OK}, {2, 3, api.OK},
		{0, 1, api.ErrArg}, {0, 0, api.ErrArg}, {-1, 1, api.ErrArg}, {65, 1, api.ErrArg}, {65, 0, api.ErrArg}, {1, -1, api.ErrArg}, {1, api.MaxSize + 1, api.ErrArg},
		{64, api.MaxSize + 1, api.ErrArg}, {0, -1, api.ErrArg}, {-1, -1, api.ErrArg}, {65, 65, api.ErrArg}, {math.MaxInt, 1, api.ErrArg}, {math.MinInt, 1, api.ErrArg},
		{1, math.MaxInt, api.ErrArg}, {1, math.MinInt, api.ErrArg}, {math.MaxInt, math.MaxInt, api.ErrArg}, {1 << 32, 1 << 32, api.ErrArg}, {math.MinInt, math.MinInt, api.ErrArg},
	} {
		r, e := New(x.rows, x.width)
		if e != x.e || (r != nil) != (e == api.OK) {
			t.Errorf("New(%d, %d): got %v, %d, want %d", x.rows, x.width, r, e, x.e)
		}
		if r != nil {
			checkRing(t, "a new one", r, &queue{room: x.rows, width: x.width})
		}
	}
}

func TestByHand(t *testing.T) {
	r := fresh(t, 2, 1)
	for _, x := range []struct {
		n int64
		e api.Errno
	}{{1, api.OK}, {2, api.OK}, {3, api.ErrFull}} {
		if e := r.Push([]int64{x.n}); e != x.e {
			t.Errorf("Push %d: got %d, want %d", x.n, e, x.e)
		}
	}
	if row, ok := r.Pop(); !ok || !slices.Equal(row, []int64{1}) {
		t.Errorf("Pop: got %d, %t", row, ok)
	}
	if e := r.Push([]int64{4}); e != api.OK {
		t.Errorf("Push 4: got %d", e)
	}
	if row, ok := r.At(0); !ok || !slices.Equal(row, []int64{2}) {
		t.Errorf("At(0): got %d, %t", row, ok)
	}
	if got := r.Rows(); !sameRows(got, [][]int64{{2}, {4}}) || r.Len() != 2 || r.Words() != 2 {
		t.Errorf("Rows: got %d, a Len of %d, %d Words", got, r.Len(), r.Words())
	}
}

func TestWordsAreNumbers(t *testing.T) {
	r := fresh(t, 5, 7)
	for i := range 3 {
		r.Push(sample(int64(i), 7))
	}
	if r.Len() != 3 || r.Words() != 21 {
		t.Errorf("got a Len of %d and %d Words", r.Len(), r.Words())
	}
}

func TestLengthIsToldAheadOfFull(t *testing.T) {
	for _, width := range []int{0, 1, 2, 64} {
		r, q := fresh(t, 2, width), &queue{room: 2, width: width}
		for i := range int64(4) {
			for _, length := range []int{0, 1, 2, 3, 63, 64, 65, 1000} {
				if length != width {
					checkPush(t, r, q, sample(9, length))
				}
			}
			checkPush(t, r, q, sample(i, width))
		}
	}
}

func TestRowsWithoutNumbers(t *testing.T) {
	r := fresh(t, 2, 0)
	if r.Push(nil) != api.OK || r.Push([]int64{}) != api.OK || r.Push(nil) != api.ErrFull || r.Push([]int64{1}) != api.ErrLength {
		t.Error("Push of a row without numbers")
	}
	if r.Len() != 2 || r.Words() != 0 || len(r.Rows()) != 2 {
		t.Errorf("got a Len of %d, %d Words, Rows %d", r.Len(), r.Words(), r.Rows())
	}
	for range 2 {
		if row, ok := r.Pop(); len(row) != 0 || !ok {
			t.Errorf("Pop: got %d, %t", row, ok)
		}
	}
	if row, ok := r.Pop(); row != nil || ok || r.Len() != 0 {
		t.Errorf("Pop of none: got %d, %t", row, ok)
	}
}

func TestOfNil(t *testing.T) {
	var r *Ring
	for _, row := range [][]int64{nil, {}, {1}, {1, 2}} {
		if e := r.Push(row); e != api.ErrArg {
			t.Errorf("Push: got %d", e)
		}
	}
	if row, ok := r.Pop(); row != nil || ok {
		t.Errorf("Pop: got %d, %t", row, ok)
	}
	for _, i := range []int{0, 1, -1, math.MinInt, math.MaxInt} {
		if row, ok := r.At(i); row != nil || ok {
			t.Errorf("At: got %d, %t", row, ok)
		}
	}
	if len(r.Rows()) != 0 || r.Len() != 0 || r.Words() != 0 || r.Clone() != nil {
		t.Errorf("got Rows %d, a Len of %d, %d Words, a Clone %v", r.Rows(), r.Len(), r.Words(), r.Clone())
	}
}

func TestAllShortRunsOfCalls(t *testing.T) {
	const most = 11
	for _, room := range []int{1, 2, 3, 5} {
		for run := range 1 << most {
			r, q := fresh(t, room, 2), &queue{room: room, width: 2}
			for i := range most {
				if run>>i&1 == 1 {
					checkPush(t, r, q, sample(int64(i+1), 2))
				} else {
					checkPop(t, r, q)
				}
			}
		}
	}
}

func TestHoweverManyCameAndWent(t *testing.T) {
	for _, room := range []int{1, 2, 3, 7, 31, 32, 33, 63, 64} {
		for _, width := range []int{0, 1, 3, 64} {
			r, q := fresh(t, room, width), &queue{room: room, width: width}
			next := int64(0)
			for i := range 40 {
				for range i*7%(room+2) + 1 {
					next++
					checkPush(t, r, q, sample(next, width))
				}
				for range i * 5 % (room + 3) {
					checkPop(t, r, q)
				}
			}
		}
	}
}

// around tells a ring that has three rows of two, of which the last one stands
// at the beginning of what goes round, and what it is to be.
func around(t *testing.T) (*Ring, *queue) {
	t.Helper()
	r, q := fresh(t, 3, 2), &queue{room: 3, width: 2}
	for i := range int64(5) {
		if i > 2 {
			checkPop(t, r, q)
		}
		checkPush(t, r, q, sample(i, 2))
	}
	return r, q
}

func TestWhatIsHandedInIsNotKept(t *testing.T) {
	r, q := around(t)
	checkPop(t, r, q)
	row := []int64{8, 9, 10}
	checkPush(t, r, q, row[:2])
	if !slices.Equal(row, []int64{8, 9, 10}) {
		t.Errorf("what was handed in came to be %d", row)
	}
	row[0] = 77
	checkRing(t, "behind a change of what was handed in", r, q)
}

// spoil writes into a row, and behind it.
func spoil(row []int64) {
	for i := range row {
		row[i] = 77
	}
	for i := range row[:cap(row)] {
		row[:cap(row)][i] = 78
	}
}

func TestAnswersAreNew(t *testing.T) {
	r, q := around(t)
	for i := range 3 {
		row, _ := r.At(i)
		spoil(row)
		checkRing(t, "behind a change of what At told", r, q)
	}
	for _, row := range r.Rows() {
		spoil(row)
		checkRing(t, "behind a change of what Rows told", r, q)
	}
	rows := r.Rows()
	spoil(rows[0])
	spoil(rows[2])
	if !slices.Equal(rows[1], q.rows[1]) {
		t.Errorf("rows of one answer share numbers: %d", rows)
	}
	rows[1] = nil
	checkRing(t, "behind a change of the list that Rows told", r, q)
	kept, _ := r.Pop()
	q.pop()
	want := slices.Clone(kept)
	checkPush(t, r, q, sample(50, 2))
	if !slices.Equal(kept, want) {
		t.Errorf("what Pop told came to be %d", kept)
	}
	spoil(kept)
	checkRing(t, "behind a change of what Pop told", r, q)
}

func TestACloneIsByItself(t *testing.T) {
	for goes := range 5 {
		r, q := around(t)
		for range goes {
			checkPop(t, r, q)
		}
		c, p := r.Clone(), &queue{room: 3, width: 2, rows: slices.Clone(q.rows)}
		checkRing(t, "a clone", c, p)
		for i := range int64(7) {
			checkPush(t, c, p, sample(60+i, 2))
			checkRing(t, "what was cloned", r, q)
			checkPush(t, r, q, sample(70+i, 2))
			checkRing(t, "a clone", c, p)
			checkPop(t, c, p)
			checkRing(t, "what was cloned", r, q)
			checkPop(t, r, q)
			checkRing(t, "a clone", c, p)
		}
		if e := c.Push(sample(1, 3)); e != api.ErrLength {
			t.Errorf("Push to a clone: got %d", e)
		}
	}
}

func TestTwoRingsHaveNothingInCommon(t *testing.T) {
	r, q := fresh(t, 2, 1), &queue{room: 2, width: 1}
	s, p := fresh(t, 2, 1), &queue{room: 2, width: 1}
	checkPush(t, r, q, []int64{1})
	checkPush(t, s, p, []int64{2})
	checkRing(t, "the one", r, q)
	checkPop(t, r, q)
	checkRing(t, "the other one", s, p)
}
