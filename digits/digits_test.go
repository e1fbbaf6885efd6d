package digits

import (
	"math"
	"math/big"
	"slices"
	"strconv"
	"strings"
	"testing"
)

const least, greatest = math.MinInt64, math.MaxInt64

// numbers are some of all lengths, on both sides of 0, with both ends.
func numbers() []int64 {
	l := []int64{0, 1, -1, 7, -7, 9, 10, -10, 12, -12, 99, 100, 101, -100, 1000, -999, 2147483647, 2147483648, -2147483648, -2147483649,
		least, least + 1, least + 8, greatest, greatest - 1, greatest - 7, greatest / 10, least / 10}
	for n := int64(1); n < greatest/10; n *= 10 {
		l = append(l, n, n-1, n+1, -n, 1-n, 7*(n/8), 10*n+3, -9*n)
	}
	return l
}

func TestWrittenByHand(t *testing.T) {
	for _, x := range []struct {
		n         int64
		put, high string
	}{
		{0, "0", "0"}, {1, "1", "1"}, {-1, "-1", "¯1"}, {10, "10", "10"}, {-12, "-12", "¯12"}, {1050, "1050", "1050"}, {-100, "-100", "¯100"},
		{greatest, "9223372036854775807", "9223372036854775807"}, {least, "-9223372036854775808", "¯9223372036854775808"},
		{least + 1, "-9223372036854775807", "¯9223372036854775807"},
	} {
		if got := Put(x.n); got != x.put {
			t.Errorf("Put(%d): got %q, want %q", x.n, got, x.put)
		}
		if got := High(x.n); got != x.high {
			t.Errorf("High(%d): got %q, want %q", x.n, got, x.high)
		}
	}
}

func TestGetOfNoNumber(t *testing.T) {
	for _, s := range []string{
		"", "-", "--", "--1", "-0", "00", "-00", "07", "-07", "007", "000", "+1", "+0", "1 ", " 1", "1\n", "\n1", "\t1", "1-", "1-2", "- 1", "-+1",
		"¯1", "_1", "1_0", "1_000", "0x1", "1e3", "1.0", ".5", "x", "1x", "x1", "1,2", "\x001", "1\x00", "１", "٣", "1٣", "\xff", "1\xff", "\xc2\xb9", "1\xc2", "−1",
		"9223372036854775808", "-9223372036854775809", "9223372036854775810", "-9223372036854775810", "9999999999999999999", "-9999999999999999999",
		"10000000000000000000", "-10000000000000000000", "18446744073709551615", "18446744073709551616", "18446744073709551617", "-18446744073709551615",
		"36893488147419103233", "92233720368547758070", "-92233720368547758080", "340282366920938463463374607431768211457",
		strings.Repeat("9", 5000), "-" + strings.Repeat("1", 5000), strings.Repeat("0", 5000), "0" + Put(greatest),
	} {
		if n, ok := Get(s); n != 0 || ok {
			t.Errorf("Get(%q): got %d, %t", s, n, ok)
		}
	}
}

// meant tells the number that digits behind a sign or not are to mean.
func meant(digits string, below bool) (int64, bool) {
	sign := ""
	if below {
		sign = "-"
	}
	n, ok := new(big.Int).SetString(sign+digits, 10)
	if !ok || !n.IsInt64() || n.String() != sign+digits {
		return 0, false
	}
	return n.Int64(), true
}

func TestGetAroundBothEnds(t *testing.T) {
	for _, end := range []int64{least, greatest, greatest / 10, 0} {
		for i := int64(-300); i <= 300; i++ {
			n := new(big.Int).Add(big.NewInt(end), big.NewInt(i))
			got, ok := Get(n.String())
			if ok != n.IsInt64() || (ok && got != n.Int64()) || (!ok && got != 0) {
				t.Errorf("Get(%s): got %d, %t", n, got, ok)
			}
		}
	}
}

// texts tells all texts of so many pieces at most.
func texts(pieces []string, most int) []string {
	l := []string{""}
	from := 0
	for range most {
		to := len(l)
		for _, s := range l[from:to] {
			for _, piece := range pieces {
				l = append(l, s+piece)
			}
		}
		from = to
	}
	return l
}

func TestGetOfAllShortTexts(t *testing.T) {
	written := map[string]int64{}
	for n := int64(-9999); n <= 99999; n++ {
		written[strconv.FormatInt(n, 10)] = n
	}
	for _, s := range texts([]string{"0", "1", "5", "9", "-", "+", " ", "_", "¯"}, 5) {
		want, there := written[s]
		if n, ok := Get(s); n != want || ok != there {
			t.Errorf("Get(%q): got %d, %t, want %d, %t", s, n, ok, want, there)
		}
	}
}

func TestReadByHand(t *testing.T) {
	for _, x := range []struct {
		s    string
		n    int64
		size int
		ok   bool
	}{
		{"_12x", -12, 3, true}, {"007", 0, 3, false}, {"¯3x", -3, 3, true}, {"_x", 0, 1, false}, {"0", 0, 1, true}, {"0x", 0, 1, true}, {"12 3", 12, 2, true},
		{"", 0, 0, false}, {"x", 0, 0, false}, {" 1", 0, 0, false}, {"-1", 0, 0, false}, {"+1", 0, 0, false}, {"\n", 0, 0, false},
		{"_", 0, 1, false}, {"¯", 0, 2, false}, {"_ 1", 0, 1, false}, {"¯ 1", 0, 2, false}, {"__1", 0, 1, false}, {"¯¯1", 0, 2, false}, {"_¯1", 0, 1, false},
		{"¯_1", 0, 2, false}, {"_-1", 0, 1, false}, {"¯+1", 0, 2, false},
		{"_0", 0, 2, false}, {"¯0", 0, 3, false}, {"_0x", 0, 2, false}, {"00", 0, 2, false}, {"_00", 0, 3, false}, {"¯007 1", 0, 5, false}, {"01", 0, 2, false},
		{"0¯1", 0, 1, true}, {"0_", 0, 1, true}, {"1_2", 1, 1, true}, {"1¯2", 1, 1, true}, {"1.5", 1, 1, true}, {"1×2", 1, 1, true}, {"10⌈", 10, 2, true},
		{"1٣", 1, 1, true}, {"1１", 1, 1, true}, {"٣", 0, 0, false}, {"１", 0, 0, false}, {"_٣", 0, 1, false},
		{"\xc2", 0, 0, false}, {"\xaf1", 0, 0, false}, {"\xc21", 0, 0, false}, {"\xc2\xb01", 0, 0, false}, {"1\xc2\xaf", 1, 1, true}, {"1\xff2", 1, 1, true}, {"\x00", 0, 0, false},
		{"9223372036854775807", greatest, 19, true}, {"9223372036854775808", 0, 19, false}, {"9223372036854775808x", 0, 19, false},
		{"¯9223372036854775808", least, 21, true}, {"_9223372036854775808", least, 20, true}, {"_9223372036854775808 1", least, 20, true},
		{"¯9223372036854775809", 0, 21, false}, {"_9223372036854775809x", 0, 20, false}, {"18446744073709551617", 0, 20, false}, {"_18446744073709551615", 0, 21, false},
		{"92233720368547758070 5", 0, 20, false}, {"36893488147419103233", 0, 20, false},
		{strings.Repeat("9", 5000) + "x9", 0, 5000, false}, {"_" + strings.Repeat("0", 5000), 0, 5001, false}, {"¯" + strings.Repeat("7", 5000) + " ", 0, 5002, false},
	} {
		if n, size, ok := Read(x.s); n != x.n || size != x.size || ok != x.ok {
			t.Errorf("Read(%q): got %d, %d, %t, want %d, %d, %t", x.s, n, size, ok, x.n, x.size, x.ok)
		}
	}
}

func TestReadOfAllShortTexts(t *testing.T) {
	for _, s := range texts([]string{"0", "1", "8", "_", "¯", "-", " ", "x", "\xc2", "\xaf"}, 5) {
		unsigned := strings.TrimPrefix(s, "_")
		if len(unsigned) == len(s) {
			unsigned = strings.TrimPrefix(s, "¯")
		}
		behind := strings.TrimLeft(unsigned, "0123456789")
		want, there := meant(unsigned[:len(unsigned)-len(behind)], len(unsigned) < len(s))
		n, size, ok := Read(s)
		if n != want || size != len(s)-len(behind) || ok != there {
			t.Errorf("Read(%q): got %d, %d, %t, want %d, %d, %t", s, n, size, ok, want, len(s)-len(behind), there)
		}
	}
}

func TestWordsByHand(t *testing.T) {
	for _, x := range []struct {
		s    string
		want []string
	}{
		{"", []string{""}}, {" ", []string{"", ""}}, {"  ", []string{"", "", ""}}, {"a", []string{"a"}}, {"a b", []string{"a", "b"}}, {"a  b", []string{"a", "", "b"}},
		{" a", []string{"", "a"}}, {"a ", []string{"a", ""}}, {" a ", []string{"", "a", ""}}, {"a   b c", []string{"a", "", "", "b", "c"}},
		{"a\tb\nc\rd", []string{"a\tb\nc\rd"}}, {"a\u00a0b\u3000c\u2003d", []string{"a\u00a0b\u3000c\u2003d"}}, {"x× ⌈y", []string{"x×", "⌈y"}},
		{"\xc2 \xff", []string{"\xc2", "\xff"}}, {"\xe2\x8c b", []string{"\xe2\x8c", "b"}}, {"\x00 \x20", []string{"\x00", "", ""}}, {"e 5 0 7 -1", []string{"e", "5", "0", "7", "-1"}},
	} {
		if got := Words(x.s); !slices.Equal(got, x.want) {
			t.Errorf("Words(%q): got %q, want %q", x.s, got, x.want)
		}
	}
}

func TestWordsJoinedAreTheText(t *testing.T) {
	for _, s := range texts([]string{" ", "a", "1", "\n", "×", "\xc2"}, 6) {
		words := Words(s)
		if len(words) != strings.Count(s, " ")+1 || strings.Join(words, " ") != s {
			t.Errorf("Words(%q): got %q", s, words)
		}
		for _, word := range words {
			if strings.Contains(word, " ") {
				t.Errorf("Words(%q): got %q", s, words)
			}
		}
	}
}

func TestNumsByHand(t *testing.T) {
	for _, x := range []struct {
		words []string
		want  []int64
		ok    bool
	}{
		{nil, nil, true}, {[]string{}, nil, true}, {[]string{"0"}, []int64{0}, true}, {[]string{"3", "-1", "3"}, []int64{3, -1, 3}, true},
		{[]string{Put(least), Put(greatest)}, []int64{least, greatest}, true},
		{[]string{""}, nil, false}, {[]string{"1", ""}, nil, false}, {[]string{"", "1"}, nil, false}, {[]string{"1", "x", "2"}, nil, false}, {[]string{"1", "2", "-0"}, nil, false},
		{[]string{"¯1"}, nil, false}, {[]string{"_1"}, nil, false}, {[]string{"1 2"}, nil, false}, {[]string{"1", "9223372036854775808"}, nil, false},
	} {
		got, ok := Nums(x.words...)
		if ok != x.ok || !slices.Equal(got, x.want) {
			t.Errorf("Nums(%q): got %d, %t, want %d, %t", x.words, got, ok, x.want, x.ok)
		}
	}
	words := []string{"1", "x", "2"}
	Nums(words...)
	if !slices.Equal(words, []string{"1", "x", "2"}) {
		t.Errorf("Nums changed its words to %q", words)
	}
}

func TestWhatIsWrittenIsRead(t *testing.T) {
	var words []string
	for _, n := range numbers() {
		if got, ok := Get(Put(n)); got != n || !ok {
			t.Errorf("Get(%q): got %d, %t", Put(n), got, ok)
		}
		for _, behind := range []string{"", " 5", "x", "×3", "_1", "¯", "-", ".", "\n", "\xff"} {
			low := strings.Replace(High(n), "¯", "_", 1)
			for _, s := range []string{High(n), low} {
				if got, size, ok := Read(s + behind); got != n || size != len(s) || !ok {
					t.Errorf("Read(%q): got %d, %d, %t, want %d", s+behind, got, size, ok, n)
				}
			}
		}
		if got := strings.Replace(High(n), "¯", "-", 1); got != Put(n) {
			t.Errorf("High(%d) is not as Put(%d): %q", n, n, High(n))
		}
		words = append(words, Put(n))
	}
	if got, ok := Nums(Words(strings.Join(words, " "))...); !ok || !slices.Equal(got, numbers()) {
		t.Errorf("Nums of Words: got %d, %t", got, ok)
	}
}

func TestWhatIsReadIsWrittenAsItWas(t *testing.T) {
	for _, s := range texts([]string{"0", "1", "9", "-", "¯", "_", " "}, 5) {
		if n, ok := Get(s); ok && Put(n) != s {
			t.Errorf("Get(%q) is %d, which is written %q", s, n, Put(n))
		}
		n, size, ok := Read(s)
		if ok && High(n) != strings.Replace(s[:size], "_", "¯", 1) {
			t.Errorf("Read(%q) is %d, which is written %q", s, n, High(n))
		}
	}
}
