// Package shape is layer 1: see shared/doc/01-shape.md.
package shape

import (
	"slices"

	"riffle/api"
)

// Right tells whether these axes may be (P1.1).
func Right(d []int) bool {
	_, ok := product(d)
	return ok
}

// Size tells how many places the axes have, 0 if they may not be (P1.1).
func Size(d []int) int {
	n, _ := product(d)
	return n
}

// product tells all lengths multiplied, and whether the axes may be; 0 and
// false, if they may not.
func product(d []int) (int, bool) {
	if len(d) > api.MaxRank {
		return 0, false
	}
	all := 1
	multiply := func(n int) bool {
		if n < 0 || n > api.MaxSize {
			return false
		}
		all *= n
		return true
	}
	for axis := range len(d) {
		if !multiply(d[axis]) {
			return 0, false
		}
	}
	// Only here, since a nought further on makes up for lengths ahead of it.
	if all > api.MaxSize {
		return 0, false
	}
	return all, true
}

// Same tells whether both are the same lengths in the same order (P1.1).
func Same(a, b []int) bool {
	return slices.Equal(a, b)
}

// Index tells how many places stand ahead of this one, -1 if it is none of
// d's (P1.2).
func Index(d, place []int) int {
	if !Right(d) || len(place) != len(d) {
		return -1
	}
	index := 0
	for axis := range len(d) {
		if !within(place[axis], d[axis]) {
			return -1
		}
		index = index*d[axis] + place[axis]
	}
	return index
}

// Place tells the place whose Index is i, nothing if there is none (P1.2).
func Place(d []int, i int) []int {
	// Axes that may not be have the Size 0, so that no i is below it.
	if !within(i, Size(d)) {
		return nil
	}
	place := make([]int, len(d))
	for behind := range len(d) {
		axis := len(d) - 1 - behind
		place[axis] = i % d[axis]
		i /= d[axis]
	}
	return place
}

// Strides tells of each axis how far apart, by Index, its neighbours stand
// (P1.2).
func Strides(d []int) []int {
	if !Right(d) {
		return nil
	}
	strides := make([]int, len(d))
	stride := 1
	for behind := range len(d) {
		axis := len(d) - 1 - behind
		strides[axis] = stride
		stride *= d[axis]
	}
	return strides
}

// Without tells d without an axis (P1.3).
func Without(d []int, axis int) []int {
	left := slices.Clone(d)
	if !within(axis, len(d)) {
		return left
	}
	return slices.Delete(left, axis, axis+1)
}

// With tells d with n as the length of an axis (P1.3).
func With(d []int, axis, n int) []int {
	other := slices.Clone(d)
	if within(axis, len(d)) {
		other[axis] = n
	}
	return other
}

func within(i, length int) bool {
	return i >= 0 && i < length
}

// Turned tells the lengths from behind (P1.3).
func Turned(d []int) []int {
	turned := make([]int, len(d))
	for axis := range len(d) {
		turned[len(d)-1-axis] = d[axis]
	}
	return turned
}

// Perm tells whether p has each number from 0 on, below its length, once
// (P1.4).
func Perm(p []int) bool {
	met := make([]bool, len(p))
	for i := range len(p) {
		if !within(p[i], len(p)) || met[p[i]] {
			return false
		}
		met[p[i]] = true
	}
	return true
}

// Picked tells the list in which d's i-th length stands at the place p[i]
// (P1.4).
func Picked(d, p []int) []int {
	if len(p) != len(d) || !Perm(p) {
		return nil
	}
	picked := make([]int, len(d))
	for axis := range len(d) {
		picked[p[axis]] = d[axis]
	}
	return picked
}
