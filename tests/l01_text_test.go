package tests

import (
	"math"
	"math/big"
	"regexp"
	"slices"
	"strconv"
	"strings"
	"testing"
	"unsafe"

	"loop.example/g00809/impl"
)

// extremeInts lists the numbers at which a range or an overflow begins.
func extremeInts() []int {
	return []int{
		math.MinInt, math.MinInt + 1, math.MinInt / 2, -impl.MaxNum - 1, -impl.MaxNum, -impl.MaxNum + 1,
		-1000003, -1000, -3, -2, -1, 0, 1, 2, 3, 1000, 1000002, 1000003, 1000004,
		impl.MaxNum - 1, impl.MaxNum, impl.MaxNum + 1, math.MaxInt / 2, math.MaxInt - 1, math.MaxInt,
	}
}

// numbersInRange lists numbers that have a FormatInt: both ends, and every change of the number of digits.
func numbersInRange() []int {
	l := []int{0}
	for power := 1; power <= impl.MaxNum; power *= 10 {
		l = append(l, power, -power, power-1, 1-power, 7*power/3, -7*power/3)
	}
	return slices.DeleteFunc(l, func(n int) bool { return n < -impl.MaxNum || n > impl.MaxNum })
}

// wordsOver lists all strings of at most longest of the given letters.
func wordsOver(letters []string, longest int) []string {
	words := []string{""}
	last := words
	for range longest {
		var next []string
		for _, word := range last {
			for _, letter := range letters {
				next = append(next, word+letter)
			}
		}
		words = append(words, next...)
		last = next
	}
	return words
}

func TestP1IntegersAreRecovered(t *testing.T) {
	for _, n := range numbersInRange() {
		got, ok := impl.ParseInt(impl.FormatInt(n))
		if got != n || !ok {
			t.Errorf("ParseInt(FormatInt(%d)) = %d, %v", n, got, ok)
		}
	}
	for n := -20000; n <= 20000; n++ {
		got, ok := impl.ParseInt(impl.FormatInt(n))
		if got != n || !ok {
			t.Fatalf("ParseInt(FormatInt(%d)) = %d, %v", n, got, ok)
		}
	}
}

func TestP1TextOfIntegersIsRecovered(t *testing.T) {
	for _, s := range wordsOver([]string{"-", "+", "0", "1", "9", ",", " "}, 5) {
		n, ok := impl.ParseInt(s)
		if ok && impl.FormatInt(n) != s {
			t.Errorf("ParseInt(%q) = %d, whose FormatInt is %q", s, n, impl.FormatInt(n))
		}
		l, ok := impl.ParseInts(s)
		if ok && impl.FormatInts(l) != s {
			t.Errorf("ParseInts(%q) = %v, whose FormatInts is %q", s, l, impl.FormatInts(l))
		}
	}
}

func TestP1ListsAreRecovered(t *testing.T) {
	lists := [][]int{nil, {}, numbersInRange()}
	numbers := []int{-impl.MaxNum, -10, -1, 0, 1, 10, impl.MaxNum}
	for _, a := range numbers {
		lists = append(lists, []int{a})
		for _, b := range numbers {
			lists = append(lists, []int{a, b}, []int{a, b, a})
		}
	}
	for _, l := range lists {
		got, ok := impl.ParseInts(impl.FormatInts(l))
		if !ok || !slices.Equal(got, l) {
			t.Errorf("ParseInts(FormatInts(%v)) = %v, %v", l, got, ok)
		}
	}
}

func TestP1StringsAreRecovered(t *testing.T) {
	for _, s := range wordsOver([]string{"a", ",", "\n", "é", "\xff", " "}, 5) {
		if got := impl.Join(impl.SplitAny(s, ","), ","); got != s {
			t.Errorf("joined parts of %q are %q", s, got)
		}
		if got := impl.Join(impl.SplitAny(s, "\n"), "\n"); got != s {
			t.Errorf("joined parts of %q are %q", s, got)
		}
		lines := impl.SplitLines(s)
		want := s
		if s != "" && !strings.HasSuffix(s, "\n") {
			want += "\n"
		}
		var got string
		for _, line := range lines {
			got += line + "\n"
		}
		if got != want {
			t.Errorf("SplitLines(%q) = %q", s, lines)
		}
	}
}

func TestP1PartsAreRecovered(t *testing.T) {
	pieces := []string{"", "a", "bc", "\xa9", "é"}
	for _, a := range pieces {
		for _, b := range pieces {
			for _, c := range pieces {
				for _, parts := range [][]string{{a}, {a, b}, {a, b, c}} {
					if got := impl.SplitAny(impl.Join(parts, ";"), ";"); !slices.Equal(got, parts) {
						t.Errorf("parts of the joined %q are %q", parts, got)
					}
				}
			}
		}
	}
}

// A quotient q rounded down satisfies q*b <= a < (q+1)*b.
func TestP1FloorDivStaysInRange(t *testing.T) {
	check := func(a, b int) {
		x, y, q := big.NewInt(int64(a)), big.NewInt(int64(b)), big.NewInt(int64(impl.FloorDiv(a, b)))
		rest := new(big.Int).Sub(x, q.Mul(q, y))
		if rest.Sign() < 0 || rest.Cmp(y) >= 0 {
			t.Errorf("FloorDiv(%d, %d) = %d", a, b, impl.FloorDiv(a, b))
		}
	}
	for a := -200; a <= 200; a++ {
		for b := 1; b <= 40; b++ {
			check(a, b)
		}
	}
	for _, a := range extremeInts() {
		for _, b := range extremeInts() {
			if b >= 1 {
				check(a, b)
			}
		}
	}
}

func TestP1HashesStayInRange(t *testing.T) {
	for _, a := range extremeInts() {
		for _, b := range extremeInts() {
			for _, l := range [][]int{{a}, {a, b}, {a, b, a}, {b, b, a, a}} {
				if h := impl.HashInts(l); h < 0 || h > 1000002 {
					t.Errorf("HashInts(%v) = %d", l, h)
				}
			}
		}
	}
}

func TestP15FormatInt(t *testing.T) {
	for _, n := range extremeInts() {
		want := strconv.Itoa(n)
		if n < -1000000000 || n > 1000000000 {
			want = ""
		}
		if got := impl.FormatInt(n); got != want {
			t.Errorf("FormatInt(%d) = %q, not %q", n, got, want)
		}
	}
	cases := []struct {
		n    int
		want string
	}{
		{0, "0"}, {7, "7"}, {-5, "-5"}, {10, "10"}, {-100, "-100"}, {999999999, "999999999"},
		{1000000000, "1000000000"}, {-1000000000, "-1000000000"}, {1000000001, ""}, {-1000000001, ""},
	}
	for _, c := range cases {
		if got := impl.FormatInt(c.n); got != c.want {
			t.Errorf("FormatInt(%d) = %q, not %q", c.n, got, c.want)
		}
	}
}

func TestP15ParseInt(t *testing.T) {
	cases := []struct {
		s    string
		want int
	}{
		{"0", 0}, {"7", 7}, {"-5", -5}, {"10", 10}, {"-100", -100},
		{"999999999", 999999999}, {"1000000000", 1000000000}, {"-1000000000", -1000000000},
	}
	for _, c := range cases {
		if got, ok := impl.ParseInt(c.s); got != c.want || !ok {
			t.Errorf("ParseInt(%q) = %d, %v", c.s, got, ok)
		}
	}
}

func TestP15ParseIntRejects(t *testing.T) {
	rejected := []string{
		"", "-", "--", "--1", "+", "+0", "+1", "-0", "00", "01", "07", "-01", "-00", "1-", "1-1",
		" ", " 1", "1 ", "1\n", "\n1", "- 1", "1,2", "1.0", "1.", ".1", "1e3", "0x1", "0b1", "1_000", "a", "1a", "a1",
		"1000000001", "-1000000001", "2000000000", "10000000000", "01000000000",
		"9223372036854775807", "-9223372036854775808", "9223372036854775808", "-9223372036854775809",
		"18446744073709551616", "18446744073709551617", strings.Repeat("9", 400), "-" + strings.Repeat("1", 400), strings.Repeat("0", 400) + "1",
		"\x00", "1\x00", "\xff", "1\xff", "é", "\uff11", "\u0661", "\u22121",
	}
	for _, s := range rejected {
		if n, ok := impl.ParseInt(s); n != 0 || ok {
			t.Errorf("ParseInt(%q) = %d, %v", s, n, ok)
		}
	}
}

func TestP15ParseIntOfEveryShortText(t *testing.T) {
	written := regexp.MustCompile(`^(0|-?[1-9][0-9]*)$`)
	for _, s := range wordsOver([]string{"-", "+", "0", "1", "9", ",", "_"}, 5) {
		n, ok := impl.ParseInt(s)
		if ok != written.MatchString(s) || !ok && n != 0 {
			t.Errorf("ParseInt(%q) = %d, %v", s, n, ok)
		}
	}
}

func TestP15IsIdentifier(t *testing.T) {
	cases := []struct {
		s    string
		want bool
	}{
		{"a", true}, {"z", true}, {"ab", true}, {"a0", true}, {"z9", true}, {"abcdefgh", true}, {"a1234567", true},
		{"", false}, {"abcdefghi", false}, {"a12345678", false}, {strings.Repeat("a", 300), false},
		{"0", false}, {"9a", false}, {"1", false}, {"A", false}, {"aB", false}, {"_", false}, {"a_", false}, {"a b", false},
		{" a", false}, {"a ", false}, {"a\n", false}, {"a-b", false}, {"é", false}, {"aé", false}, {"éa", false},
		{"a\xff", false}, {"\xffa", false}, {"a\x00", false}, {"a\u0661", false}, {"aaaaaaaé", false}, {"aaaaaaé", false},
	}
	for _, c := range cases {
		if got := impl.IsIdentifier(c.s); got != c.want {
			t.Errorf("IsIdentifier(%q) = %v", c.s, got)
		}
	}
}

func TestP15IsIdentifierOfEveryByte(t *testing.T) {
	for b := range 256 {
		letter := b >= 'a' && b <= 'z'
		digit := b >= '0' && b <= '9'
		one := string([]byte{byte(b)})
		if got := impl.IsIdentifier(one); got != letter {
			t.Errorf("IsIdentifier(%q) = %v", one, got)
		}
		for _, s := range []string{"x" + one, "x" + one + "y", "x123456" + one} {
			if got := impl.IsIdentifier(s); got != (letter || digit) {
				t.Errorf("IsIdentifier(%q) = %v", s, got)
			}
		}
	}
	for n := range 12 {
		if got := impl.IsIdentifier(strings.Repeat("q", n)); got != (n >= 1 && n <= 8) {
			t.Errorf("IsIdentifier of %d bytes is %v", n, got)
		}
	}
}

func TestP15SplitAny(t *testing.T) {
	cases := []struct {
		s, separators string
		want          []string
	}{
		{"a,b c", ", ", []string{"a", "b", "c"}},
		{"a,b c", ",", []string{"a", "b c"}},
		{"a,b c", "", []string{"a,b c"}},
		{"a,b c", ";", []string{"a,b c"}},
		{"", "", []string{""}},
		{"", ",", []string{""}},
		{",", ",", []string{"", ""}},
		{",,", ",", []string{"", "", ""}},
		{",a,", ",", []string{"", "a", ""}},
		{"a, b", ", ", []string{"a", "", "b"}},
		{"a,b", ",,", []string{"a", "b"}},
		{"abc", "cab", []string{"", "", "", ""}},
		{"a\nb\x00c", "\x00\n", []string{"a", "b", "c"}},
		{"aéb", "\xa9", []string{"a\xc3", "b"}},
		{"aéb", "é", []string{"a", "", "b"}},
		{"a\xffb", "\xff", []string{"a", "b"}},
		{"a\xffb\xfec", "\ufffd", []string{"a\xffb\xfec"}},
		{"a\ufffdb", "\xff", []string{"a\ufffdb"}},
	}
	for _, c := range cases {
		if got := impl.SplitAny(c.s, c.separators); !slices.Equal(got, c.want) {
			t.Errorf("SplitAny(%q, %q) = %q, not %q", c.s, c.separators, got, c.want)
		}
	}
}

func TestP15SplitAnyCountsSeparators(t *testing.T) {
	for _, s := range wordsOver([]string{"a", ",", " ", "é"}, 5) {
		for _, separators := range []string{"", ",", ", ", "\xc3", "a\xa9"} {
			n := 0
			for i := range len(s) {
				if strings.Contains(separators, s[i:i+1]) {
					n++
				}
			}
			parts := impl.SplitAny(s, separators)
			if len(parts) != n+1 || len(strings.Join(parts, "")) != len(s)-n {
				t.Errorf("SplitAny(%q, %q) = %q", s, separators, parts)
			}
		}
	}
}

func TestP15Join(t *testing.T) {
	cases := []struct {
		parts     []string
		separator string
		want      string
	}{
		{nil, ",", ""}, {[]string{}, ",", ""}, {[]string{""}, ",", ""}, {[]string{"a"}, ",", "a"},
		{[]string{"a", "b", "c"}, "-", "a-b-c"}, {[]string{"a", "b", "c"}, "", "abc"}, {[]string{"a", "b"}, "<>", "a<>b"},
		{[]string{"", "", ""}, ",", ",,"}, {[]string{"\xff", "é"}, "\x00", "\xff\x00é"},
	}
	for _, c := range cases {
		if got := impl.Join(c.parts, c.separator); got != c.want {
			t.Errorf("Join(%q, %q) = %q, not %q", c.parts, c.separator, got, c.want)
		}
	}
}

func TestP15SplitLines(t *testing.T) {
	cases := []struct {
		s    string
		want []string
	}{
		{"", nil}, {"\n", []string{""}}, {"\n\n", []string{"", ""}},
		{"a", []string{"a"}}, {"a\n", []string{"a"}}, {"a\nb", []string{"a", "b"}}, {"a\nb\n", []string{"a", "b"}},
		{"\na", []string{"", "a"}}, {"a\n\n", []string{"a", ""}}, {"a\n\nb", []string{"a", "", "b"}}, {"a\n ", []string{"a", " "}},
		{"a\r\nb\rc", []string{"a\r", "b\rc"}}, {"a\u2028b\x0bc\u0085d", []string{"a\u2028b\x0bc\u0085d"}},
		{"\xff\n\xc3\n\xe2\x82\né", []string{"\xff", "\xc3", "\xe2\x82", "é"}},
	}
	for _, c := range cases {
		if got := impl.SplitLines(c.s); !slices.Equal(got, c.want) {
			t.Errorf("SplitLines(%q) = %q, not %q", c.s, got, c.want)
		}
	}
}

func TestP15FormatInts(t *testing.T) {
	cases := []struct {
		l    []int
		want string
	}{
		{nil, "-"}, {[]int{}, "-"}, {[]int{0}, "0"}, {[]int{-7}, "-7"}, {[]int{1, -2}, "1,-2"}, {[]int{3, 0, -10, 3}, "3,0,-10,3"},
		{[]int{impl.MaxNum, -impl.MaxNum}, "1000000000,-1000000000"},
		{[]int{impl.MaxNum + 1}, ""}, {[]int{-impl.MaxNum - 1, 1}, ""}, {[]int{1, impl.MaxNum + 1, 2}, ""}, {[]int{1, 2, math.MinInt}, ""}, {[]int{math.MaxInt}, ""},
	}
	for _, c := range cases {
		if got := impl.FormatInts(c.l); got != c.want {
			t.Errorf("FormatInts(%v) = %q, not %q", c.l, got, c.want)
		}
	}
}

func TestP15ParseInts(t *testing.T) {
	cases := []struct {
		s    string
		want []int
	}{
		{"-", nil}, {"0", []int{0}}, {"-7", []int{-7}}, {"1,-2", []int{1, -2}}, {"3,0,-10,3", []int{3, 0, -10, 3}},
		{"1000000000,-1000000000", []int{impl.MaxNum, -impl.MaxNum}},
	}
	for _, c := range cases {
		if got, ok := impl.ParseInts(c.s); !ok || !slices.Equal(got, c.want) {
			t.Errorf("ParseInts(%q) = %v, %v", c.s, got, ok)
		}
	}
	rejected := []string{
		"", ",", "1,", ",1", "1,,2", "-,1", "1,-", "-,-", "--", "1, 2", "1 ,2", " 1", "1 2", "1;2", "01", "1,02", "1,+2", "1,-0",
		"1000000001", "1,1000000001", "1,2,x", "1\n", "1,2\n", "[]", "nil", "\xff", "1,18446744073709551617",
	}
	for _, s := range rejected {
		if l, ok := impl.ParseInts(s); ok || len(l) != 0 {
			t.Errorf("ParseInts(%q) = %v, %v", s, l, ok)
		}
	}
}

func TestP15ParseIntsOfEveryShortText(t *testing.T) {
	written := regexp.MustCompile(`^(-|(0|-?[1-9][0-9]*)(,(0|-?[1-9][0-9]*))*)$`)
	for _, s := range wordsOver([]string{"-", "0", "1", ",", " "}, 6) {
		l, ok := impl.ParseInts(s)
		if ok != written.MatchString(s) || !ok && len(l) != 0 {
			t.Errorf("ParseInts(%q) = %v, %v", s, l, ok)
		}
	}
}

func TestP15FloorDiv(t *testing.T) {
	cases := []struct{ a, b, want int }{
		{-3, 2, -2}, {3, 2, 1}, {-4, 2, -2}, {4, 2, 2}, {0, 5, 0}, {-1, 5, -1}, {-5, 5, -1}, {-6, 5, -2}, {4, 5, 0},
		{7, 1, 7}, {-7, 1, -7}, {7, 0, 0}, {7, -1, 0}, {-7, -2, 0}, {0, 0, 0}, {7, math.MinInt, 0},
		{math.MinInt, 1, math.MinInt}, {math.MaxInt, 1, math.MaxInt}, {math.MinInt, -1, 0}, {math.MinInt, 0, 0},
		{math.MinInt, math.MinInt, 0}, {math.MinInt, math.MaxInt, -2}, {math.MaxInt, math.MaxInt, 1}, {-1, math.MaxInt, -1},
		{math.MinInt, 2, math.MinInt / 2}, {math.MinInt, 3, -3074457345618258603},
	}
	for _, c := range cases {
		if got := impl.FloorDiv(c.a, c.b); got != c.want {
			t.Errorf("FloorDiv(%d, %d) = %d, not %d", c.a, c.b, got, c.want)
		}
	}
}

func TestP15Clamp(t *testing.T) {
	want := func(n, lo, hi int) int {
		switch {
		case hi < lo || n < lo:
			return lo
		case n > hi:
			return hi
		}
		return n
	}
	for _, n := range extremeInts() {
		for _, lo := range extremeInts() {
			for _, hi := range extremeInts() {
				if got := impl.Clamp(n, lo, hi); got != want(n, lo, hi) {
					t.Errorf("Clamp(%d, %d, %d) = %d", n, lo, hi, got)
				}
			}
		}
	}
	cases := []struct{ n, lo, hi, want int }{
		{3, 1, 5, 3}, {9, 1, 5, 5}, {-9, 1, 5, 1}, {1, 1, 5, 1}, {5, 1, 5, 5}, {-3, -5, -1, -3}, {0, -5, -1, -1}, {-6, -5, -1, -5},
		{3, 5, 1, 5}, {9, 5, 1, 5}, {0, 5, 1, 5}, {7, 2, 2, 2},
	}
	for _, c := range cases {
		if got := impl.Clamp(c.n, c.lo, c.hi); got != c.want {
			t.Errorf("Clamp(%d, %d, %d) = %d, not %d", c.n, c.lo, c.hi, got, c.want)
		}
	}
}

func TestP15HashInts(t *testing.T) {
	cases := []struct {
		l    []int
		want int
	}{
		{nil, 17}, {[]int{}, 17}, {[]int{0}, 527}, {[]int{1}, 528}, {[]int{1, 2}, 16370}, {[]int{2, 1}, 16400},
		{[]int{-527}, 0}, {[]int{-528}, 1000002}, {[]int{999476}, 0}, {[]int{999475}, 1000002},
		{[]int{impl.MaxNum}, 997530}, {[]int{-impl.MaxNum}, 3527},
	}
	for _, c := range cases {
		if got := impl.HashInts(c.l); got != c.want {
			t.Errorf("HashInts(%v) = %d, not %d", c.l, got, c.want)
		}
	}
}

func TestP15HashIntsClampsElements(t *testing.T) {
	for _, a := range extremeInts() {
		for _, b := range extremeInts() {
			inside := []int{min(max(a, -impl.MaxNum), impl.MaxNum), min(max(b, -impl.MaxNum), impl.MaxNum)}
			want := big.NewInt(17)
			for _, x := range inside {
				want.Mul(want, big.NewInt(31)).Add(want, big.NewInt(int64(x))).Mod(want, big.NewInt(1000003))
			}
			if got := impl.HashInts([]int{a, b}); int64(got) != want.Int64() {
				t.Errorf("HashInts(%d, %d) = %d, not %d", a, b, got, want)
			}
		}
	}
}

func TestP15ArgumentsOfTextAreUnchanged(t *testing.T) {
	numbers := []int{5, impl.MaxNum + 9, -impl.MaxNum - 9, 77, 78}
	impl.FormatInts(numbers[:1])
	impl.FormatInts(numbers[:3])
	impl.HashInts(numbers[:3])
	if !slices.Equal(numbers, []int{5, impl.MaxNum + 9, -impl.MaxNum - 9, 77, 78}) {
		t.Errorf("numbers became %v", numbers)
	}
	parts := []string{"a", "", "b", "behind"}
	impl.Join(parts[:3], ",")
	if !slices.Equal(parts, []string{"a", "", "b", "behind"}) {
		t.Errorf("parts became %q", parts)
	}
}

func TestP15ResultsOfTextAreNew(t *testing.T) {
	first, _ := impl.ParseInts("1,2,3")
	for i := range first {
		first[i] = -1
	}
	if second, _ := impl.ParseInts("1,2,3"); !slices.Equal(second, []int{1, 2, 3}) {
		t.Errorf("a second list is %v", second)
	}
	whole := strings.Repeat("ab", 20)
	text := whole + "\n" + whole
	var results []string
	results = append(results, impl.SplitAny(text, "\n")...)
	results = append(results, impl.SplitAny(text, "")...)
	results = append(results, impl.SplitLines(text)...)
	results = append(results, impl.Join([]string{text}, ","))
	for i, s := range results {
		if sharesMemory(s, text) {
			t.Errorf("result %d shares the memory of the argument", i)
		}
	}
}

func sharesMemory(a, b string) bool {
	startA := uintptr(unsafe.Pointer(unsafe.StringData(a)))
	startB := uintptr(unsafe.Pointer(unsafe.StringData(b)))
	return startA < startB+uintptr(len(b)) && startB < startA+uintptr(len(a))
}
