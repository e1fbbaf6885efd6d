package window

import (
	"slices"

	"riffle/api"
	"riffle/deque"
	"riffle/fold"
	"riffle/glyph"
	"riffle/scalar"
	"riffle/twin"
)

// column is the numbers that the rows that are held have at one place: they
// come at its end, and go at its beginning. How it reckons what they come to,
// and what it needs to hold for that, is its own affair.
type column interface {
	push(n int64)
	drop()
	// all tells what the numbers come to, of which there is at least one.
	all() int64
	words() int
	clone() column
}

// newColumn tells a column without numbers, that has room for so many, and is
// reckoned in the function's way.
func newColumn(f api.Fn, most int) column {
	switch Way(f) {
	case Deque:
		nums, _ := deque.New(f.Code == glyph.Min, most)
		return picked{nums}
	case Twin:
		nums, _ := twin.New(most, func(a, b int64) int64 {
			both, _ := scalar.Do(f, a, b)
			return both
		})
		return joined{nums}
	}
	return &past{f: f}
}

// past is all numbers, which are folded anew each time.
type past struct {
	f    api.Fn
	nums []int64
}

func (c *past) push(n int64) {
	c.nums = append(c.nums, n)
}

func (c *past) drop() {
	// What is behind comes forward, so that a window that moves on for ever
	// needs no more memory than its room.
	c.nums = slices.Delete(c.nums, 0, 1)
}

func (c *past) all() int64 {
	n, _ := fold.Row(c.f, c.nums)
	return n
}

func (c *past) words() int {
	return len(c.nums)
}

func (c *past) clone() column {
	return &past{f: c.f, nums: slices.Clone(c.nums)}
}

// joined is numbers by two stacks: each is held as itself, and once more in
// what it was joined to.
type joined struct {
	nums *twin.Agg[int64]
}

func (c joined) push(n int64) {
	c.nums.Push(n)
}

func (c joined) drop() {
	c.nums.Drop()
}

func (c joined) all() int64 {
	n, _ := c.nums.All()
	return n
}

func (c joined) words() int {
	return 2 * c.nums.Len()
}

func (c joined) clone() column {
	return joined{c.nums.Clone()}
}

// picked is the numbers that may be the greatest one yet, or the least one:
// each is held with its place.
type picked struct {
	nums *deque.Deque
}

func (c picked) push(n int64) {
	c.nums.Push(n)
}

func (c picked) drop() {
	c.nums.Drop()
}

func (c picked) all() int64 {
	n, _ := c.nums.Best()
	return n
}

func (c picked) words() int {
	return 2 * len(c.nums.Kept())
}

func (c picked) clone() column {
	return picked{c.nums.Clone()}
}
