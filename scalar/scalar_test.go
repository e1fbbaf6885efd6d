package scalar

import (
	"math"
	"math/big"
	"slices"
	"testing"

	"riffle/api"
	"riffle/glyph"
)

const least, greatest = math.MinInt64, math.MaxInt64

// samples are numbers around all edges: 0, the ends, and where halves of 64
// bits meet.
func samples() []int64 {
	l := []int64{10, -10, 63, 64, 65, 1000, -1000, least, least + 1, least + 2, greatest, greatest - 1, greatest - 2,
		least / 2, greatest / 2, 1 << 31, -1 << 31, 1<<32 + 1, 3037000499, 3037000500, -3037000500, 0x5555555555555555}
	for n := int64(-7); n <= 7; n++ {
		l = append(l, n)
	}
	return l
}

// strange are codes that are none of a scalar function.
func strange() []int {
	l := []int{0, -1, -19, glyph.Then + 1, 99, math.MaxInt, math.MinInt}
	for code := glyph.Shape; code <= glyph.Then; code++ {
		l = append(l, code)
	}
	return l
}

// round tells a number's lowest 64 bits, with a sign.
func round(n *big.Int) int64 {
	low := new(big.Int).And(n, new(big.Int).SetUint64(math.MaxUint64))
	return int64(low.Uint64())
}

// floor tells a divided by b, rounded down, of b other than 0.
func floor(a, b int64) *big.Int {
	quotient, rest := new(big.Int).QuoRem(big.NewInt(a), big.NewInt(b), new(big.Int))
	if rest.Sign() != 0 && rest.Sign() != big.NewInt(b).Sign() {
		quotient.Sub(quotient, big.NewInt(1))
	}
	return quotient
}

func truth(holds bool) int64 {
	if holds {
		return 1
	}
	return 0
}

// powerOf reckons by numbers of any length what is left of 64 bits.
func powerOf(a, b int64) int64 {
	if b >= 0 {
		whole := new(big.Int).Lsh(big.NewInt(1), 64)
		return round(new(big.Int).Exp(big.NewInt(a), big.NewInt(b), whole))
	}
	switch {
	case a == 1 || a == -1 && b%2 == 0:
		return 1
	case a == -1:
		return -1
	}
	return 0
}

// overOf and restOf follow the chapter's words by numbers of any length.
func overOf(a, b int64) int64 {
	if b == 0 {
		return 0
	}
	return round(floor(a, b))
}

func restOf(a, b int64) int64 {
	if a == 0 {
		return b
	}
	product := new(big.Int).Mul(big.NewInt(a), floor(b, a))
	return round(product.Sub(big.NewInt(b), product))
}

// two has, by code, what each function with two arguments is to make.
func two() map[int]func(a, b int64) int64 {
	return map[int]func(a, b int64) int64{
		1:  func(a, b int64) int64 { return round(new(big.Int).Add(big.NewInt(a), big.NewInt(b))) },
		2:  func(a, b int64) int64 { return round(new(big.Int).Sub(big.NewInt(a), big.NewInt(b))) },
		3:  func(a, b int64) int64 { return round(new(big.Int).Mul(big.NewInt(a), big.NewInt(b))) },
		4:  overOf,
		5:  powerOf,
		6:  restOf,
		7:  func(a, b int64) int64 { return slices.Max([]int64{a, b}) },
		8:  func(a, b int64) int64 { return slices.Min([]int64{a, b}) },
		9:  func(a, b int64) int64 { return truth(a == b) },
		10: func(a, b int64) int64 { return truth(a != b) },
		11: func(a, b int64) int64 { return truth(a < b) },
		12: func(a, b int64) int64 { return truth(a <= b) },
		13: func(a, b int64) int64 { return truth(a > b) },
		14: func(a, b int64) int64 { return truth(a >= b) },
		15: func(a, b int64) int64 { return a & b },
		16: func(a, b int64) int64 { return a | b },
		17: func(a, b int64) int64 { return a },
		18: func(a, b int64) int64 { return b },
	}
}

// one has, by code, what each function with one argument is to make.
func one() map[int]func(a int64) int64 {
	return map[int]func(a int64) int64{
		1:  func(a int64) int64 { return a },
		2:  func(a int64) int64 { return round(new(big.Int).Neg(big.NewInt(a))) },
		3:  func(a int64) int64 { return int64(big.NewInt(a).Sign()) },
		4:  func(a int64) int64 { return overOf(1, a) },
		5:  func(a int64) int64 { return powerOf(2, a) },
		6:  func(a int64) int64 { return round(new(big.Int).Abs(big.NewInt(a))) },
		17: func(a int64) int64 { return a },
		18: func(a int64) int64 { return a },
		19: func(a int64) int64 { return truth(a == 0) },
	}
}

func TestHas(t *testing.T) {
	for code := glyph.Plus; code <= glyph.Not; code++ {
		if Has(code, 1) != (one()[code] != nil) || Has(code, 2) != (two()[code] != nil) {
			t.Errorf("Has of %d: %v, %v", code, Has(code, 1), Has(code, 2))
		}
		for _, valence := range []int{0, -1, 3, math.MaxInt, math.MinInt} {
			if Has(code, valence) {
				t.Errorf("Has(%d, %d)", code, valence)
			}
		}
	}
	for _, code := range strange() {
		if Has(code, 0) || Has(code, 1) || Has(code, 2) || Has(code, 3) {
			t.Errorf("Has of %d", code)
		}
	}
}

func TestTwo(t *testing.T) {
	for code, want := range two() {
		for _, a := range samples() {
			for _, b := range samples() {
				if got, ok := Two(code, a, b); got != want(a, b) || !ok {
					t.Errorf("Two(%d, %d, %d): got %d, %v, want %d", code, a, b, got, ok, want(a, b))
				}
			}
		}
	}
}

func TestTwoByHand(t *testing.T) {
	for _, x := range []struct {
		code       int
		a, b, want int64
	}{
		{glyph.Plus, greatest, 1, least}, {glyph.Plus, least, -1, greatest}, {glyph.Minus, least, 1, greatest},
		{glyph.Minus, 0, least, least}, {glyph.Times, least, -1, least}, {glyph.Times, 1 << 32, 1 << 32, 0},
		{glyph.Over, -7, 2, -4}, {glyph.Over, 7, -2, -4}, {glyph.Over, -7, -2, 3}, {glyph.Over, 7, 2, 3}, {glyph.Over, -8, 2, -4},
		{glyph.Over, 5, 0, 0}, {glyph.Over, 0, 0, 0}, {glyph.Over, -5, 0, 0}, {glyph.Over, least, -1, least},
		{glyph.Over, least, greatest, -2}, {glyph.Over, greatest, least, -1}, {glyph.Over, 1, least, -1}, {glyph.Over, least, 1, least},
		{glyph.Rest, 2, -7, 1}, {glyph.Rest, -2, 7, -1}, {glyph.Rest, -2, -7, -1}, {glyph.Rest, 2, 7, 1}, {glyph.Rest, 2, 8, 0},
		{glyph.Rest, 0, 9, 9}, {glyph.Rest, 0, least, least}, {glyph.Rest, -1, least, 0}, {glyph.Rest, greatest, least, greatest - 1},
		{glyph.Rest, least, greatest, -1}, {glyph.Rest, least, 1, least + 1},
		{glyph.Power, 2, 10, 1024}, {glyph.Power, 2, 63, least}, {glyph.Power, 2, 64, 0}, {glyph.Power, 0, 0, 1}, {glyph.Power, 0, 5, 0},
		{glyph.Power, 0, -1, 0}, {glyph.Power, 1, least, 1}, {glyph.Power, 1, -3, 1}, {glyph.Power, -1, least, 1}, {glyph.Power, -1, -3, -1},
		{glyph.Power, -1, -4, 1}, {glyph.Power, -1, greatest, -1}, {glyph.Power, 3, -1, 0}, {glyph.Power, -2, -2, 0},
		{glyph.Power, -3, 3, -27}, {glyph.Power, 7, 1, 7}, {glyph.Power, -7, 0, 1}, {glyph.Power, least, 2, 0},
		{glyph.Max, least, greatest, greatest}, {glyph.Min, least, greatest, least}, {glyph.Max, -2, -3, -2},
		{glyph.Equal, 3, 3, 1}, {glyph.Equal, 3, 4, 0}, {glyph.Unlike, 3, 3, 0}, {glyph.Unlike, 3, 4, 1},
		{glyph.Less, 3, 4, 1}, {glyph.Less, 3, 3, 0}, {glyph.Less, 4, 3, 0}, {glyph.AtMost, 3, 4, 1}, {glyph.AtMost, 3, 3, 1}, {glyph.AtMost, 4, 3, 0},
		{glyph.More, 3, 4, 0}, {glyph.More, 3, 3, 0}, {glyph.More, 4, 3, 1}, {glyph.AtLeast, 3, 4, 0}, {glyph.AtLeast, 3, 3, 1}, {glyph.AtLeast, 4, 3, 1},
		{glyph.And, 6, 3, 2}, {glyph.And, -1, 5, 5}, {glyph.Or, 6, 3, 7}, {glyph.Or, least, 1, least + 1},
		{glyph.Left, 4, 5, 4}, {glyph.Right, 4, 5, 5},
	} {
		if got, ok := Two(x.code, x.a, x.b); got != x.want || !ok {
			t.Errorf("Two(%d, %d, %d): got %d, %v, want %d", x.code, x.a, x.b, got, ok, x.want)
		}
	}
}

func TestTwoOfOthers(t *testing.T) {
	for _, code := range append(strange(), glyph.Not) {
		for _, swap := range []bool{false, true} {
			if n, ok := Two(code, 3, 4); n != 0 || ok {
				t.Errorf("Two of %d: %d, %v", code, n, ok)
			}
			if n, ok := Do(api.Fn{Code: code, Swap: swap}, 3, 4); n != 0 || ok {
				t.Errorf("Do of %d: %d, %v", code, n, ok)
			}
		}
	}
}

func TestOne(t *testing.T) {
	for code, want := range one() {
		for _, a := range samples() {
			if got, ok := One(code, a); got != want(a) || !ok {
				t.Errorf("One(%d, %d): got %d, %v, want %d", code, a, got, ok, want(a))
			}
		}
	}
	for _, x := range []struct {
		code    int
		a, want int64
	}{
		{glyph.Plus, -4, -4}, {glyph.Minus, 4, -4}, {glyph.Minus, least, least}, {glyph.Times, -9, -1}, {glyph.Times, 0, 0}, {glyph.Times, least, -1},
		{glyph.Times, greatest, 1}, {glyph.Over, 0, 0}, {glyph.Over, 1, 1}, {glyph.Over, -1, -1}, {glyph.Over, 5, 0}, {glyph.Over, -5, -1},
		{glyph.Power, 5, 32}, {glyph.Power, 0, 1}, {glyph.Power, -1, 0}, {glyph.Power, 63, least}, {glyph.Power, 64, 0}, {glyph.Power, greatest, 0},
		{glyph.Rest, -9, 9}, {glyph.Rest, 9, 9}, {glyph.Rest, least, least}, {glyph.Not, 0, 1}, {glyph.Not, 1, 0}, {glyph.Not, -3, 0},
	} {
		if got, ok := One(x.code, x.a); got != x.want || !ok {
			t.Errorf("One(%d, %d): got %d, %v, want %d", x.code, x.a, got, ok, x.want)
		}
	}
}

func TestOneOfOthers(t *testing.T) {
	others := strange()
	for code := glyph.Max; code <= glyph.Or; code++ {
		others = append(others, code)
	}
	for _, code := range others {
		for _, a := range []int64{0, 1, -5} {
			if n, ok := One(code, a); n != 0 || ok {
				t.Errorf("One(%d, %d): %d, %v", code, a, n, ok)
			}
		}
	}
}

func TestDo(t *testing.T) {
	for code, want := range two() {
		for _, a := range samples() {
			for _, b := range samples() {
				straight, ok := Do(api.Fn{Code: code}, a, b)
				if straight != want(a, b) || !ok {
					t.Errorf("Do of %d, %d, %d: %d, %v", code, a, b, straight, ok)
				}
				swapped, ok := Do(api.Fn{Code: code, Swap: true}, a, b)
				if swapped != want(b, a) || !ok {
					t.Errorf("Do of %d, %d, %d, Swap: %d, %v", code, a, b, swapped, ok)
				}
			}
		}
	}
}

func TestUnit(t *testing.T) {
	units := map[int]int64{
		glyph.Plus: 0, glyph.Minus: 0, glyph.Rest: 0, glyph.Unlike: 0, glyph.Less: 0, glyph.More: 0, glyph.Or: 0,
		glyph.Times: 1, glyph.Over: 1, glyph.Power: 1, glyph.Equal: 1, glyph.AtMost: 1, glyph.AtLeast: 1,
		glyph.Max: least, glyph.Min: greatest, glyph.And: -1,
	}
	for code, want := range units {
		if got, ok := Unit(code); got != want || !ok {
			t.Errorf("Unit(%d): got %d, %v, want %d", code, got, ok, want)
		}
	}
	for _, code := range append(strange(), glyph.Left, glyph.Right, glyph.Not) {
		if got, ok := Unit(code); got != 0 || ok {
			t.Errorf("Unit(%d): got %d, %v", code, got, ok)
		}
	}
}

func TestJoinsAndPicks(t *testing.T) {
	joining := []int{glyph.Plus, glyph.Times, glyph.Max, glyph.Min, glyph.And, glyph.Or, glyph.Left, glyph.Right}
	for code := glyph.Plus; code <= glyph.Not; code++ {
		if Joins(code) != slices.Contains(joining, code) {
			t.Errorf("Joins(%d) is %v", code, Joins(code))
		}
		if Picks(code) != (code == glyph.Max || code == glyph.Min) {
			t.Errorf("Picks(%d) is %v", code, Picks(code))
		}
	}
	for _, code := range strange() {
		if Joins(code) || Picks(code) {
			t.Errorf("Joins or Picks of %d", code)
		}
	}
}

// agrees tells whether it is all one which neighbours of three numbers are
// joined first.
func agrees(f api.Fn, a, b, c int64) bool {
	ab, _ := Do(f, a, b)
	bc, _ := Do(f, b, c)
	left, _ := Do(f, ab, c)
	right, _ := Do(f, a, bc)
	return left == right
}

// agreesOn tells whether that is so of all threes of these numbers.
func agreesOn(f api.Fn, l []int64) bool {
	for _, a := range l {
		for _, b := range l {
			for _, c := range l {
				if !agrees(f, a, b, c) {
					return false
				}
			}
		}
	}
	return true
}

func TestThoseThatJoinAreAllOne(t *testing.T) {
	small := []int64{-2, -1, 0, 1, 2, 3}
	for code := glyph.Plus; code <= glyph.Right; code++ {
		for _, swap := range []bool{false, true} {
			f := api.Fn{Code: code, Swap: swap}
			if Joins(code) && !agreesOn(f, samples()) {
				t.Errorf("%v Joins, and it isn't all one", f)
			}
			if !Joins(code) && agreesOn(f, small) {
				t.Errorf("%v doesn't Join, and it is all one", f)
			}
		}
	}
}

func TestUnitsOfThoseThatJoinChangeNothing(t *testing.T) {
	for code := glyph.Plus; code <= glyph.Right; code++ {
		unit, ok := Unit(code)
		if !ok || !Joins(code) {
			continue
		}
		for _, n := range samples() {
			left, _ := Two(code, unit, n)
			right, _ := Two(code, n, unit)
			if left != n || right != n {
				t.Errorf("the Unit of %d with %d: %d, %d", code, n, left, right)
			}
		}
	}
}

func TestOverAndRestTogether(t *testing.T) {
	for _, a := range samples() {
		for _, b := range samples() {
			quotient, _ := Two(glyph.Over, a, b)
			left, _ := Two(glyph.Rest, b, a)
			if b != 0 && b*quotient+left != a {
				t.Errorf("%d and %d: %d, %d", a, b, quotient, left)
			}
			if left != 0 && b != 0 && (left < 0) != (b < 0) {
				t.Errorf("%d Rest %d is %d: another sign", b, a, left)
			}
		}
	}
}
