package twin

import (
	"math"
	"math/bits"
	"slices"
	"strings"
	"testing"

	"riffle/api"
)

// fresh tells a window that may be.
func fresh[T any](t *testing.T, most int, join func(a, b T) T) *Agg[T] {
	t.Helper()
	g, e := New(most, join)
	if g == nil || e != api.OK {
		t.Fatalf("New(%d): got %v, %d", most, g, e)
	}
	return g
}

func behind(a, b string) string { return a + b }

func plus(a, b int64) int64 { return a + b }

// shift is a function of one number, x to a times x and b; such are joined to
// the one that does the right one first, so that the order is minded.
type shift struct{ a, b uint64 }

func after(f, g shift) shift {
	return shift{a: f.a * g.a, b: f.a*g.b + f.b}
}

// meant tells what values come to, one behind the other.
func meant[T any](values []T, join func(a, b T) T) (all T, ok bool) {
	for i, x := range values {
		if i == 0 {
			all = x
		} else {
			all = join(all, x)
		}
	}
	return all, len(values) > 0
}

// checkAll holds what a window tells against what it is to be.
func checkAll[T comparable](t *testing.T, what string, g *Agg[T], values []T, join func(a, b T) T) {
	t.Helper()
	want, there := meant(values, join)
	// Twice, since to be asked changes nothing.
	for range 2 {
		if all, ok := g.All(); all != want || ok != there {
			t.Fatalf("%s: All: got %v, %t, want %v, %t", what, all, ok, want, there)
		}
	}
	if g.Len() != len(values) {
		t.Fatalf("%s: Len: got %d, want %d", what, g.Len(), len(values))
	}
}

// checkPush lets a value come to both, and checkDrop lets the first one go;
// each tells what is there then.
func checkPush[T comparable](t *testing.T, g *Agg[T], values []T, most int, x T) []T {
	t.Helper()
	want := api.ErrFull
	if len(values) < most {
		values, want = append(values, x), api.OK
	}
	if e := g.Push(x); e != want {
		t.Fatalf("Push: got %d, want %d", e, want)
	}
	return values
}

func checkDrop[T comparable](t *testing.T, g *Agg[T], values []T) []T {
	t.Helper()
	if ok := g.Drop(); ok != (len(values) > 0) {
		t.Fatalf("Drop of %d: got %t", len(values), ok)
	}
	if len(values) > 0 {
		values = values[1:]
	}
	return values
}

func TestNew(t *testing.T) {
	for _, x := range []struct {
		most int
		e    api.Errno
	}{
		{1, api.OK}, {2, api.OK}, {63, api.OK}, {64, api.OK},
		{0, api.ErrArg}, {-1, api.ErrArg}, {65, api.ErrArg}, {math.MaxInt, api.ErrArg}, {math.MinInt, api.ErrArg},
	} {
		g, e := New(x.most, plus)
		if e != x.e || (g != nil) != (e == api.OK) {
			t.Errorf("New(%d): got %v, %d, want %d", x.most, g, e, x.e)
		}
		if g != nil {
			checkAll(t, "a new one", g, nil, plus)
		}
		if g, e := New[int64](x.most, nil); g != nil || e != api.ErrArg {
			t.Errorf("New(%d) without a join: got %v, %d", x.most, g, e)
		}
	}
}

func TestByHand(t *testing.T) {
	g := fresh(t, 3, behind)
	for _, s := range []string{"a", "b", "c"} {
		if e := g.Push(s); e != api.OK {
			t.Errorf("Push %s: got %d", s, e)
		}
	}
	if s, ok := g.All(); s != "abc" || !ok {
		t.Errorf("All: got %q, %t", s, ok)
	}
	if e := g.Push("d"); e != api.ErrFull {
		t.Errorf("Push where there is no room: got %d", e)
	}
	if !g.Drop() {
		t.Error("Drop: got false")
	}
	if s, ok := g.All(); s != "bc" || !ok || g.Len() != 2 {
		t.Errorf("All: got %q, %t, a Len of %d", s, ok, g.Len())
	}
	if e := g.Push("d"); e != api.OK {
		t.Errorf("Push d: got %d", e)
	}
	if s, ok := g.All(); s != "bcd" || !ok || g.Len() != 3 {
		t.Errorf("All: got %q, %t, a Len of %d", s, ok, g.Len())
	}
	for range 3 {
		if !g.Drop() {
			t.Error("Drop: got false")
		}
	}
	if g.Drop() || g.Len() != 0 {
		t.Error("Drop of none")
	}
	if s, ok := g.All(); s != "" || ok {
		t.Errorf("All of none: got %q, %t", s, ok)
	}
}

func TestOfNil(t *testing.T) {
	var g *Agg[int64]
	if e := g.Push(5); e != api.ErrArg {
		t.Errorf("Push: got %d", e)
	}
	if g.Drop() || g.Len() != 0 || g.Clone() != nil {
		t.Errorf("got a Len of %d, a Clone %v", g.Len(), g.Clone())
	}
	if n, ok := g.All(); n != 0 || ok {
		t.Errorf("All: got %d, %t", n, ok)
	}
}

func TestAllShortRunsOfCalls(t *testing.T) {
	const most = 12
	for _, room := range []int{1, 2, 3, 4, 6} {
		for run := range 1 << most {
			g := fresh(t, room, behind)
			var values []string
			for i := range most {
				if run>>i&1 == 1 {
					values = checkPush(t, g, values, room, string(rune('a'+i)))
				} else {
					values = checkDrop(t, g, values)
				}
				checkAll(t, "a short run", g, values, behind)
			}
		}
	}
}

func TestHoweverValuesComeAndGo(t *testing.T) {
	for _, room := range []int{1, 2, 3, 5, 8, 31, 32, 33, 63, 64} {
		g := fresh(t, room, after)
		var values []shift
		next := uint64(0)
		for i := range 60 {
			for range i*7%(room+2) + 1 {
				next++
				values = checkPush(t, g, values, room, shift{a: next*2 + 1, b: next * next})
				checkAll(t, "a long run", g, values, after)
			}
			for range i * 5 % (room + 3) {
				values = checkDrop(t, g, values)
				checkAll(t, "a long run", g, values, after)
			}
		}
	}
}

// slide lets so many numbers go through a window that is asked each time.
func slide(t *testing.T, room, values int, join func(a, b int64) int64) {
	t.Helper()
	g := fresh(t, room, join)
	var there []int64
	for i := range int64(values) {
		if len(there) == room {
			there = checkDrop(t, g, there)
		}
		there = checkPush(t, g, there, room, i*i%17-8)
		checkAll(t, "what moves on", g, there, join)
	}
}

func TestAnyJoin(t *testing.T) {
	for _, join := range []func(a, b int64) int64{
		plus,
		func(a, b int64) int64 { return a * b },
		func(a, b int64) int64 { return max(a, b) },
		func(a, b int64) int64 { return min(a, b) },
		func(a, b int64) int64 { return a },
		func(a, b int64) int64 { return b },
		func(a, b int64) int64 { return a | b },
		func(a, b int64) int64 { return 0 },
	} {
		for _, room := range []int{1, 2, 7, 64} {
			slide(t, room, 200, join)
		}
	}
}

func TestZeroValuesCount(t *testing.T) {
	g := fresh(t, 2, plus)
	values := checkPush(t, g, nil, 2, 0)
	checkAll(t, "a nought", g, values, plus)
	values = checkPush(t, g, values, 2, 0)
	values = checkDrop(t, g, values)
	checkAll(t, "a nought that is left", g, values, plus)
}

// TestAnyKindOfValue takes values that can't be held against one another.
func TestAnyKindOfValue(t *testing.T) {
	lists := fresh(t, 3, func(a, b []int) []int { return slices.Concat(a, b) })
	first, second := []int{1, 2}, []int{3}
	for _, l := range [][]int{first, second, nil} {
		lists.Push(l)
	}
	if all, ok := lists.All(); !slices.Equal(all, []int{1, 2, 3}) || !ok {
		t.Errorf("All of lists: got %d, %t", all, ok)
	}
	lists.Drop()
	if all, ok := lists.All(); !slices.Equal(all, []int{3}) || !ok {
		t.Errorf("All of lists: got %d, %t", all, ok)
	}
	if !slices.Equal(first, []int{1, 2}) || !slices.Equal(second, []int{3}) {
		t.Errorf("what was pushed came to be %d, %d", first, second)
	}
	type step func(int) int
	steps := fresh(t, 3, func(a, b step) step { return func(n int) int { return b(a(n)) } })
	for _, s := range []step{func(n int) int { return n + 1 }, func(n int) int { return n * 10 }, func(n int) int { return n - 3 }} {
		steps.Push(s)
	}
	steps.Drop()
	if all, ok := steps.All(); !ok || all(4) != 37 {
		t.Errorf("All of functions: got %t", ok)
	}
	steps.Drop()
	steps.Drop()
	if all, ok := steps.All(); ok || all != nil {
		t.Error("All of no functions is one")
	}
	faults := fresh(t, 2, func(a, b error) error { return b })
	if faults.Push(nil) != api.OK || faults.Len() != 1 {
		t.Error("Push of nil")
	}
	if all, ok := faults.All(); all != nil || !ok {
		t.Errorf("All of one nil: got %v, %t", all, ok)
	}
}

func TestACloneIsByItself(t *testing.T) {
	for goes := range 6 {
		for comes := range 3 {
			g := fresh(t, 4, behind)
			var values []string
			for _, s := range strings.Split("abcd", "") {
				values = checkPush(t, g, values, 4, s)
			}
			for range goes {
				values = checkDrop(t, g, values)
			}
			for i := range comes {
				values = checkPush(t, g, values, 4, string(rune('p'+i)))
			}
			c, others := g.Clone(), slices.Clone(values)
			for i := range 6 {
				others = checkPush(t, c, others, 4, string(rune('u'+i)))
				checkAll(t, "what was cloned", g, values, behind)
				values = checkPush(t, g, values, 4, string(rune('U'+i)))
				checkAll(t, "a clone", c, others, behind)
				others = checkDrop(t, c, others)
				checkAll(t, "what was cloned", g, values, behind)
				values = checkDrop(t, g, values)
				checkAll(t, "a clone", c, others, behind)
			}
		}
	}
}

// TestJoinsAreFew holds the joins that are done against the values that came:
// by two stacks these are no more than three for each value, one of them for
// being asked.
func TestJoinsAreFew(t *testing.T) {
	done := 0
	g := fresh(t, 64, func(a, b int64) int64 {
		done++
		return a + b
	})
	const came = 10000
	for i := range int64(came) {
		if g.Len() == 64 {
			g.Drop()
		}
		g.Push(i)
		g.All()
	}
	if done > 3*came {
		t.Errorf("%d joins of %d values", done, came)
	}
}

// TestJoinsOfAnyOrder takes a join of which nothing is promised but that all
// calls end, and that values are counted.
func TestJoinsOfAnyOrder(t *testing.T) {
	g := fresh(t, 3, func(a, b int64) int64 { return int64(bits.Reverse64(uint64(a))) - b })
	length := 0
	for i := range 200 {
		if i*i%7 < 4 {
			if e := g.Push(int64(i)); (e == api.OK) != (length < 3) {
				t.Errorf("Push to %d: got %d", length, e)
			}
			length = min(length+1, 3)
		} else {
			if g.Drop() != (length > 0) {
				t.Errorf("Drop of %d", length)
			}
			length = max(length-1, 0)
		}
		if _, ok := g.All(); ok != (length > 0) || g.Len() != length {
			t.Errorf("All: got %t, a Len of %d, want %d", ok, g.Len(), length)
		}
	}
}

// TestNoCallPanics takes a join that panics where a number below 0 is handed to
// it: values come and go nevertheless, and come to nothing together just while
// such a number is among them, beside others.
func TestNoCallPanics(t *testing.T) {
	g := fresh(t, 4, func(a, b int64) int64 {
		if a < 0 || b < 0 {
			panic("a number below 0")
		}
		return a + b
	})
	var values []int64
	for i := range 400 {
		if i*i%11 < 5 {
			values = checkPush(t, g, values, 4, int64(i*3%7%4)-1)
		} else {
			values = checkDrop(t, g, values)
		}
		want, there := meant(values, plus)
		if len(values) > 1 && slices.Min(values) < 0 {
			want, there = 0, false
		}
		if all, ok := g.All(); all != want || ok != there || g.Len() != len(values) {
			t.Fatalf("of %d: got %d, %t, a Len of %d", values, all, ok, g.Len())
		}
		if all, ok := g.Clone().All(); all != want || ok != there {
			t.Fatalf("a clone of %d: got %d, %t", values, all, ok)
		}
	}
	broken := fresh(t, 2, func(a, b int64) int64 { return []int64{}[a] })
	broken.Push(1)
	broken.Push(2)
	if all, ok := broken.All(); all != 0 || ok || broken.Len() != 2 || !broken.Drop() {
		t.Errorf("All by a join that panics: got %d, %t", all, ok)
	}
	if all, ok := broken.All(); all != 2 || !ok {
		t.Errorf("All of the one that is left: got %d, %t", all, ok)
	}
}

// TestWhatWentIsNotKept looks into the stacks, also behind their ends.
func TestWhatWentIsNotKept(t *testing.T) {
	g := fresh(t, 8, behind)
	for range 3 {
		for _, s := range strings.Split("abcdefg", "") {
			g.Push(s)
		}
		for range 5 {
			g.Drop()
		}
		if kept := strings.Join(g.back[:cap(g.back)], "") + g.tail.val; kept != "" {
			t.Errorf("the back stack has %q", kept)
		}
		for g.Drop() {
		}
		for _, s := range g.front[:cap(g.front)] {
			if s.ok || s.val != "" {
				t.Errorf("the front stack has %q", s.val)
			}
		}
	}
}
