package tests

import (
	"fmt"
	"math"
	"math/big"
	"regexp"
	"slices"
	"strconv"
	"strings"
	"testing"

	"loop.example/g00809/impl"
)

// numberLimit is the least number that has no text: 10000 in 256ths.
const numberLimit = 2560000

func numberToken(text string, number, offset int) impl.Token {
	return impl.Token{Kind: 1, Text: text, Number: number, Offset: offset}
}

func nameToken(text string, offset int) impl.Token {
	return impl.Token{Kind: 2, Text: text, Offset: offset}
}

func symbolToken(text string, offset int) impl.Token {
	return impl.Token{Kind: 3, Text: text, Offset: offset}
}

func endToken(offset int) impl.Token {
	return impl.Token{Kind: 0, Offset: offset}
}

func tokenList(l ...impl.Token) []impl.Token {
	return l
}

// lexerSymbols lists the document's symbols.
func lexerSymbols() []string {
	return []string{"+", "-", "*", "/", "(", ")", ",", "=", ";"}
}

// otherBytes lists the bytes that start no token and separate none. The point is one of them, where it follows no digit of a number.
func otherBytes() []string {
	var l []string
	for b := range 256 {
		one := string([]byte{byte(b)})
		if !strings.Contains("abcdefghijklmnopqrstuvwxyz0123456789+-*/(),=; \n", one) {
			l = append(l, one)
		}
	}
	return l
}

// wantNumber is the value of a decimal number in 256ths, rounded down, computed with fractions.
func wantNumber(text string) int {
	value, ok := new(big.Rat).SetString(text)
	if !ok {
		panic("not a number: " + text)
	}
	value.Mul(value, big.NewRat(256, 1))
	return int(new(big.Int).Div(value.Num(), value.Denom()).Int64())
}

// What may be a token, and what is one: a part of a source that looks like a token takes its digits, its point and its letters with it, even if they are too many.
var (
	tokenLike   = regexp.MustCompile(`^(?:[0-9]+(?:\.[0-9]*)?|[a-z][a-z0-9]*|[-+*/(),=;])`)
	wholeNumber = regexp.MustCompile(`^[0-9]{1,4}(?:\.[0-9]{1,4})?$`)
	wholeName   = regexp.MustCompile(`^[a-z][a-z0-9]{0,7}$`)
	wholeSymbol = regexp.MustCompile(`^[-+*/(),=;]$`)
)

// wantTokens follows the document with regular expressions.
func wantTokens(source string) ([]impl.Token, int) {
	if len(source) > 2000 {
		return nil, 0
	}
	var l []impl.Token
	for at := 0; at < len(source); {
		if source[at] == ' ' || source[at] == '\n' {
			at++
			continue
		}
		text := tokenLike.FindString(source[at:])
		switch {
		case wholeNumber.MatchString(text):
			l = append(l, numberToken(text, wantNumber(text), at))
		case wholeName.MatchString(text):
			l = append(l, nameToken(text, at))
		case wholeSymbol.MatchString(text):
			l = append(l, symbolToken(text, at))
		default:
			return nil, at
		}
		at += len(text)
	}
	return append(l, endToken(len(source))), -1
}

func checkTokens(t *testing.T, source string) {
	t.Helper()
	got, at := impl.Tokenize(source)
	want, wantAt := wantTokens(source)
	if !slices.Equal(got, want) || at != wantAt {
		t.Fatalf("Tokenize(%q) = %+v, %d, not %+v, %d", source, got, at, want, wantAt)
	}
}

func wantMalformed(t *testing.T, source string, want int) {
	t.Helper()
	if got, at := impl.Tokenize(source); len(got) != 0 || at != want {
		t.Errorf("Tokenize(%q) = %+v, %d, not nil, %d", source, got, at, want)
	}
}

// lexerWords lists tokens of every kind, and of every length and form of numbers and names.
func lexerWords() []string {
	l := []string{
		"0", "7", "10", "999", "9999", "0000", "0012", "0.0", "1.5", "0.25", "12.125", "9999.9999", "0000.0000", "3.0625", "7.0001",
		"a", "z", "x1", "ab", "e3", "i0j1", "color", "abcdefg", "abcdefgh", "z1234567", "a0000000",
	}
	return append(l, lexerSymbols()...)
}

// sources lists texts of tokens, with and without separators.
func sources() []string {
	l := []string{
		"", " ", "\n", "a+1.5", "c = mix(u, v, 0.5) * -x1;\nb = (c + 1) / 2;\n", "f()", "a=b=c", "((((1))))", "---1", "12abc34 5.5d6.6e", "1 .\n", "a?", "1.", "x = 12345;",
		strings.Repeat("+", 1000), strings.Repeat("a ", 1000), strings.Repeat("1\n", 999) + "22",
	}
	for _, a := range lexerWords() {
		l = append(l, a, " "+a, a+"\n", "\n \n"+a+"  ")
		for _, b := range lexerWords() {
			l = append(l, a+b, a+" "+b, a+"\n"+b, " "+a+" \n\n "+b+" ")
		}
	}
	return l
}

// Every number of 256ths is recovered from its text.
func TestP6NumbersAreRecovered(t *testing.T) {
	for n := range numberLimit {
		text := impl.FormatNumber(n)
		l, at := impl.Tokenize(text)
		if at != -1 || !slices.Equal(l, []impl.Token{numberToken(text, n, 0), endToken(len(text))}) {
			t.Fatalf("Tokenize(FormatNumber(%d)) = Tokenize(%q) = %+v, %d", n, text, l, at)
		}
	}
}

// The number of a text has a text of its own, which is not longer, and as long only if it is not greater.
func TestP6TextOfNumbersIsRead(t *testing.T) {
	for _, whole := range []string{"0", "1", "42", "999", "9999"} {
		for digits := 1; digits <= 4; digits++ {
			for _, fraction := range allFractions(digits) {
				text := whole + "." + fraction
				l, at := impl.Tokenize(text)
				if at != -1 || len(l) != 2 {
					t.Fatalf("Tokenize(%q) = %+v, %d", text, l, at)
				}
				short := impl.FormatNumber(l[0].Number)
				if len(short) > len(text) || len(short) == len(text) && short > text {
					t.Fatalf("FormatNumber(%d) = %q, although %q is read as the same number", l[0].Number, short, text)
				}
			}
		}
	}
}

// A source consists of its tokens, at their offsets, and of spaces and newlines.
func TestP6SourcesAreTheirTokens(t *testing.T) {
	for _, source := range sources() {
		l, at := impl.Tokenize(source)
		if at != -1 {
			continue
		}
		text := ""
		for _, x := range l {
			gap := x.Offset - len(text)
			if gap < 0 || x.Offset > len(source) || strings.Trim(source[len(text):x.Offset], " \n") != "" {
				t.Fatalf("Tokenize(%q) = %+v leaves out more than spaces and newlines", source, l)
			}
			text += source[len(text):x.Offset] + x.Text
		}
		if text != source || l[len(l)-1] != endToken(len(source)) {
			t.Fatalf("the tokens %+v of %q are those of %q", l, source, text)
		}
	}
}

// readAgain is what joined tokens are read as: the same kinds, texts and numbers, one space apart.
func readAgain(l []impl.Token) []impl.Token {
	var moved []impl.Token
	at := 0
	for _, x := range l {
		x.Offset = at
		at += len(x.Text) + 1
		moved = append(moved, x)
	}
	if len(l) > 1 {
		moved[len(l)-1].Offset -= 1
	}
	return moved
}

func TestP6JoinedTokensAreReadAgain(t *testing.T) {
	for _, source := range sources() {
		l, at := impl.Tokenize(source)
		if at != -1 {
			continue
		}
		joined := impl.JoinTokens(l)
		again, at := impl.Tokenize(joined)
		if at != -1 || !slices.Equal(again, readAgain(l)) {
			t.Fatalf("the joined tokens %q of %q are read as %+v, %d", joined, source, again, at)
		}
		if twice := impl.JoinTokens(again); twice != joined || !slices.Equal(impl.TokenTexts(again), impl.TokenTexts(l)) {
			t.Fatalf("the tokens of %q are joined to %q, and then to %q", source, joined, twice)
		}
	}
}

// Spaces and newlines around a token change no token but their offsets.
func TestP6BlanksAreIgnored(t *testing.T) {
	for _, a := range lexerWords() {
		for _, b := range lexerWords() {
			plain, _ := impl.Tokenize(a + " " + b)
			for _, gap := range []string{"\n", "  ", " \n", "\n\n\n", strings.Repeat(" \n", 300)} {
				spread, at := impl.Tokenize(gap + a + gap + b + gap)
				if at != -1 || len(spread) != 3 || len(plain) != 3 {
					t.Fatalf("Tokenize of %q and %q between %q = %+v, %d", a, b, gap, spread, at)
				}
				want := slices.Clone(plain)
				want[0].Offset, want[1].Offset, want[2].Offset = len(gap), 2*len(gap)+len(a), 3*len(gap)+len(a)+len(b)
				if !slices.Equal(spread, want) {
					t.Fatalf("Tokenize of %q and %q between %q = %+v, not %+v", a, b, gap, spread, want)
				}
			}
		}
	}
}

func TestP15LexerConstants(t *testing.T) {
	got := [5]int{impl.MaxSource, impl.TokenEnd, impl.TokenNumber, impl.TokenName, impl.TokenSymbol}
	if got != [5]int{2000, 0, 1, 2, 3} {
		t.Errorf("the constants are %v", got)
	}
}

func TestP15TokenizeCases(t *testing.T) {
	cases := []struct {
		source string
		want   []impl.Token
	}{
		{"", tokenList(endToken(0))}, {" ", tokenList(endToken(1))}, {"\n", tokenList(endToken(1))}, {" \n\n  ", tokenList(endToken(5))},
		{"a+1.5", tokenList(nameToken("a", 0), symbolToken("+", 1), numberToken("1.5", 384, 2), endToken(5))},
		{" a + 1.5\n", tokenList(nameToken("a", 1), symbolToken("+", 3), numberToken("1.5", 384, 5), endToken(9))},
		{"a b", tokenList(nameToken("a", 0), nameToken("b", 2), endToken(3))}, {"ab", tokenList(nameToken("ab", 0), endToken(2))}, {"a\nb", tokenList(nameToken("a", 0), nameToken("b", 2), endToken(3))},
		{"a1", tokenList(nameToken("a1", 0), endToken(2))}, {"a 1", tokenList(nameToken("a", 0), numberToken("1", 256, 2), endToken(3))}, {"1a", tokenList(numberToken("1", 256, 0), nameToken("a", 1), endToken(2))}, {"1 a", tokenList(numberToken("1", 256, 0), nameToken("a", 2), endToken(3))},
		{"12", tokenList(numberToken("12", 3072, 0), endToken(2))}, {"1 2", tokenList(numberToken("1", 256, 0), numberToken("2", 512, 2), endToken(3))}, {"1\n2", tokenList(numberToken("1", 256, 0), numberToken("2", 512, 2), endToken(3))},
		{"+-", tokenList(symbolToken("+", 0), symbolToken("-", 1), endToken(2))}, {"==", tokenList(symbolToken("=", 0), symbolToken("=", 1), endToken(2))}, {"-1", tokenList(symbolToken("-", 0), numberToken("1", 256, 1), endToken(2))},
		{"f(u,0.5);", tokenList(nameToken("f", 0), symbolToken("(", 1), nameToken("u", 2), symbolToken(",", 3), numberToken("0.5", 128, 4), symbolToken(")", 7), symbolToken(";", 8), endToken(9))},
		{"x=3*(y/-2)", tokenList(nameToken("x", 0), symbolToken("=", 1), numberToken("3", 768, 2), symbolToken("*", 3), symbolToken("(", 4), nameToken("y", 5), symbolToken("/", 6), symbolToken("-", 7), numberToken("2", 512, 8), symbolToken(")", 9), endToken(10))},
		{"1.5e3", tokenList(numberToken("1.5", 384, 0), nameToken("e3", 3), endToken(5))}, {"0x10", tokenList(numberToken("0", 0, 0), nameToken("x10", 1), endToken(4))}, {"12ab34", tokenList(numberToken("12", 3072, 0), nameToken("ab34", 2), endToken(6))},
		{"1+2.5-", tokenList(numberToken("1", 256, 0), symbolToken("+", 1), numberToken("2.5", 640, 2), symbolToken("-", 5), endToken(6))}, {"1,2", tokenList(numberToken("1", 256, 0), symbolToken(",", 1), numberToken("2", 512, 2), endToken(3))},
		{"1234abcdefgh 5", tokenList(numberToken("1234", 315904, 0), nameToken("abcdefgh", 4), numberToken("5", 1280, 13), endToken(14))},
	}
	for _, c := range cases {
		if got, at := impl.Tokenize(c.source); !slices.Equal(got, c.want) || at != -1 {
			t.Errorf("Tokenize(%q) = %+v, %d, not %+v", c.source, got, at, c.want)
		}
	}
}

func TestP15TokenizeSymbols(t *testing.T) {
	for _, s := range lexerSymbols() {
		for _, c := range []struct {
			source string
			want   []impl.Token
		}{
			{s, tokenList(symbolToken(s, 0), endToken(1))},
			{s + s, tokenList(symbolToken(s, 0), symbolToken(s, 1), endToken(2))},
			{"\n" + s + " ", tokenList(symbolToken(s, 1), endToken(3))},
			{"a" + s + "1", tokenList(nameToken("a", 0), symbolToken(s, 1), numberToken("1", 256, 2), endToken(3))},
			{"1.5" + s + "b", tokenList(numberToken("1.5", 384, 0), symbolToken(s, 3), nameToken("b", 4), endToken(5))},
		} {
			if got, at := impl.Tokenize(c.source); !slices.Equal(got, c.want) || at != -1 {
				t.Errorf("Tokenize(%q) = %+v, %d, not %+v", c.source, got, at, c.want)
			}
		}
	}
	all := strings.Join(lexerSymbols(), "")
	if l, at := impl.Tokenize(all); at != -1 || len(l) != 10 || strings.Join(impl.TokenTexts(l), "") != all {
		t.Errorf("Tokenize(%q) = %+v, %d", all, l, at)
	}
}

func TestP15TokenizeSources(t *testing.T) {
	for _, source := range sources() {
		checkTokens(t, source)
	}
}

// Short texts have every order of letters, digits, points, symbols, blanks and others.
func TestP15TokenizeEveryShortText(t *testing.T) {
	for _, source := range wordsOver([]string{"a", "7", "0", ".", "*", " ", "\n", "_"}, 5) {
		checkTokens(t, source)
	}
}

// The parts are so long that they reach the limits together.
func TestP15TokenizeLongerText(t *testing.T) {
	for _, source := range wordsOver([]string{"ab", "xyz", "12", "345", "0000", ".", ";", " ", "A", "é"}, 4) {
		checkTokens(t, source)
	}
	for _, source := range wordsOver([]string{"c", "9", "."}, 8) {
		checkTokens(t, source)
	}
}

func TestP15TokenizeLengths(t *testing.T) {
	short := []struct {
		source string
		tokens int
		at     int
	}{
		{strings.Repeat(" ", 2000), 1, -1}, {strings.Repeat("\n", 2000), 1, -1}, {strings.Repeat("+", 2000), 2001, -1}, {strings.Repeat("a ", 1000), 1001, -1}, {strings.Repeat(" 1", 1000), 1001, -1}, {strings.Repeat("12.5abcd", 250), 0, 10},
		{strings.Repeat("1.25abc ", 250), 501, -1}, {strings.Repeat("+", 1999) + "9", 2001, -1}, {strings.Repeat("+", 1992) + "abcdefgh", 1994, -1}, {strings.Repeat(" ", 1999) + "?", 0, 1999}, {"?" + strings.Repeat(" ", 1999), 0, 0}, {strings.Repeat(" ", 1000) + "?" + strings.Repeat(" ", 999), 0, 1000},
		{strings.Repeat(" ", 1998) + "é", 0, 1998}, {strings.Repeat("é", 1000), 0, 0}, {strings.Repeat(" ", 1998) + "1.", 0, 1998}, {strings.Repeat("9", 2000), 0, 0}, {strings.Repeat("a", 2000), 0, 0}, {"1." + strings.Repeat("0", 1998), 0, 0}, {strings.Repeat(" ", 1) + strings.Repeat("b", 1999), 0, 1},
	}
	for _, c := range short {
		if len(c.source) != 2000 {
			t.Fatalf("a source of %d bytes", len(c.source))
		}
		checkTokens(t, c.source)
		if l, at := impl.Tokenize(c.source); len(l) != c.tokens || at != c.at {
			t.Errorf("Tokenize(%.20q..) has %d tokens, %d", c.source, len(l), at)
		}
		for _, more := range []string{" ", "\n", "+", "a", "0", "?", "é", strings.Repeat(" ", 100000)} {
			wantMalformed(t, c.source+more, 0)
			wantMalformed(t, more+c.source, 0)
		}
		checkTokens(t, c.source[1:])
		checkTokens(t, c.source[:1999])
	}
	wantMalformed(t, strings.Repeat(" ", 1999)+"é", 0)
	wantMalformed(t, strings.Repeat(" ", 1500)+"?"+strings.Repeat(" ", 500), 0)
	wantMalformed(t, strings.Repeat("a ", 1<<19), 0)
}

// allFractions lists all texts of that many digits.
func allFractions(digits int) []string {
	l := []string{""}
	for range digits {
		var longer []string
		for _, s := range l {
			for d := range 10 {
				longer = append(longer, s+strconv.Itoa(d))
			}
		}
		l = longer
	}
	return l
}

func TestP15TokenizeFractions(t *testing.T) {
	power := 1
	for digits := 1; digits <= 4; digits++ {
		power *= 10
		for k, fraction := range allFractions(digits) {
			for _, whole := range []int{0, 7, 9999} {
				text := strconv.Itoa(whole) + "." + fraction
				want := []impl.Token{numberToken(text, 256*whole+256*k/power, 0), endToken(len(text))}
				if got, at := impl.Tokenize(text); !slices.Equal(got, want) || at != -1 {
					t.Fatalf("Tokenize(%q) = %+v, %d, not %+v", text, got, at, want)
				}
			}
		}
	}
}

func TestP15TokenizeWholeNumbers(t *testing.T) {
	for digits := 1; digits <= 4; digits++ {
		for k, text := range allFractions(digits) {
			want := []impl.Token{numberToken(text, 256*k, 0), endToken(digits)}
			if got, at := impl.Tokenize(text); !slices.Equal(got, want) || at != -1 {
				t.Fatalf("Tokenize(%q) = %+v, %d, not %+v", text, got, at, want)
			}
		}
	}
}

func TestP15TokenizeNumberCases(t *testing.T) {
	cases := []struct {
		text string
		want int
	}{
		{"0", 0}, {"00", 0}, {"0000", 0}, {"1", 256}, {"01", 256}, {"0001", 256}, {"0010", 2560}, {"9999", 2559744},
		{"0.0", 0}, {"0.0000", 0}, {"0000.0000", 0}, {"0.1", 25}, {"0.9", 230}, {"0.01", 2}, {"0.003", 0}, {"0.0039", 0}, {"0.004", 1}, {"0.0040", 1}, {"0.0001", 0}, {"0.5", 128}, {"0.50", 128}, {"0.500", 128}, {"0.5000", 128}, {"0.4999", 127},
		{"1.5", 384}, {"01.5", 384}, {"0001.5", 384}, {"0.9999", 255}, {"0.996", 254}, {"0.997", 255}, {"1.0", 256}, {"1.0039", 256}, {"1.004", 257}, {"0.0625", 16}, {"3.1416", 804}, {"9999.9999", 2559999}, {"9999.5", 2559872}, {"1234.5678", 316049}, {"0.25", 64}, {"0.75", 192}, {"8.125", 2080},
	}
	for _, c := range cases {
		for _, behind := range []string{"", " ", "\n", "a", "e1", "z9", "+", "-", "*", "/", "(", ")", ",", "=", ";", " 1"} {
			source := c.text + behind
			got, at := impl.Tokenize(source)
			if at != -1 || len(got) < 2 || got[0] != numberToken(c.text, c.want, 0) || got[len(got)-1] != endToken(len(source)) {
				t.Errorf("Tokenize(%q) = %+v, %d", source, got, at)
			}
		}
	}
}

func TestP15TokenizeRejectsNumbers(t *testing.T) {
	cases := []struct {
		source string
		want   int
	}{
		{"12345", 0}, {"00000", 0}, {"00001", 0}, {"123456", 0}, {"12345.5", 0}, {"12345.", 0}, {"12345a", 0}, {"12345 ", 0}, {"a 12345", 2}, {"+12345", 1}, {"1 23456 7", 2}, {"1234 56789", 5}, {"99999999999999999999", 0}, {"18446744073709551617", 0},
		{"1.23456", 0}, {"1.00000", 0}, {"0.00000", 0}, {"1.12345678901234567890", 0}, {"1.23456a", 0}, {" 1.23456 ", 1}, {"1.2345 6.78901", 7}, {"1234.56789", 0}, {"a=0.12345;", 2},
		{"1.", 0}, {"1. ", 0}, {"1.\n", 0}, {"1. 5", 0}, {"1.a", 0}, {"1.5.", 3}, {"1.5.5", 3}, {"1..", 0}, {"1..5", 0}, {"1...5", 0}, {"1.+", 0}, {"1.;", 0}, {"1.-5", 0}, {"1.é", 0}, {"1.?", 0}, {"1234.", 0}, {"12 34.", 3}, {"12+34.x", 3}, {"a1 22.", 3}, {"1.25.75.5", 4}, {"1.2345.", 6}, {"1.23456.", 0},
		{".", 0}, {".5", 0}, {" .5", 1}, {"..5", 0}, {"a.5", 1}, {"a1.5", 2}, {"a .5", 2}, {"1 .5", 2}, {"1\n.5", 2}, {"+.5", 1}, {"(.5)", 1}, {"-.5", 1}, {"1a.5", 2}, {"1.5a.5", 4}, {"x.", 1}, {".a", 0}, {"abcdefgh.1", 8}, {"1.5 .", 4},
	}
	for _, c := range cases {
		wantMalformed(t, c.source, c.want)
		wantMalformed(t, "\n  "+c.source, c.want+3)
		wantMalformed(t, "b2*"+c.source, c.want+3)
		wantMalformed(t, c.source+" + ?", c.want)
		wantMalformed(t, c.source+"\n12345", c.want)
	}
}

func TestP15TokenizeNames(t *testing.T) {
	letters := "abcdefghijklmnopqrstuvwxyz"
	for k := range len(letters) {
		one := letters[k : k+1]
		for length := range 12 {
			for _, rest := range []string{strings.Repeat(one, length), strings.Repeat("0", length), ("z9" + letters)[:length], "1234567890123"[:length]} {
				name := one + rest
				want, wantAt := []impl.Token{nameToken(name, 1), endToken(len(name) + 2)}, -1
				if len(name) > 8 {
					want, wantAt = nil, 1
				}
				if got, at := impl.Tokenize(" " + name + "\n"); !slices.Equal(got, want) || at != wantAt {
					t.Fatalf("Tokenize of the name %q = %+v, %d", name, got, at)
				}
				if got := impl.IsIdentifier(name); got != (wantAt == -1) {
					t.Fatalf("IsIdentifier(%q) = %v", name, got)
				}
			}
		}
	}
	cases := []struct {
		source string
		want   int
	}{
		{"abcdefghi", 0}, {"a12345678", 0}, {"abcdefgh1", 0}, {"1abcdefghi", 1}, {"1234abcdefgh5", 4}, {"1.5abcdefghi", 3}, {"abcdefgh abcdefghi", 9}, {"abcdefgh(abcdefghi)", 9}, {strings.Repeat("q", 300), 0}, {"(" + strings.Repeat("q", 300), 1}, {"abcdefghi.", 0}, {"abcdefghiJ", 0}, {"abcdefgh_", 8},
		{"A", 0}, {"Z", 0}, {"aB", 1}, {"aBc", 1}, {"1A", 1}, {"1.5E", 3}, {"abcdefghI", 8}, {"Abc", 0}, {"a Z", 2}, {"abcdefgH", 7}, {"+B", 1},
	}
	for _, c := range cases {
		wantMalformed(t, c.source, c.want)
		wantMalformed(t, "\n"+c.source+" b", c.want+1)
	}
}

func TestP15TokenizeRejectsOtherBytes(t *testing.T) {
	others := otherBytes()
	if len(others) != 256-47 {
		t.Fatalf("%d other bytes", len(others))
	}
	for _, b := range others {
		// A point behind the digits of a number is the number's.
		inNumber := 1
		if b == "." {
			inNumber = 0
		}
		cases := []struct {
			source string
			want   int
		}{
			{b, 0}, {b + b, 0}, {b + "a", 0}, {b + "+1", 0}, {b + " ", 0}, {" " + b, 1}, {"\n" + b + "\n", 1}, {"a" + b, 1}, {"a" + b + "b", 1}, {"a " + b + " b", 2}, {"a+" + b, 2}, {"a+b" + b, 3}, {"f(1," + b + ")", 4},
			{"1" + b, inNumber}, {"7" + b + "a", inNumber}, {"1.5" + b, 3}, {"1.5" + b + "+2", 3}, {"1 " + b, 2}, {"x=" + b + ";", 2}, {"x=1;" + b, 4}, {"abcdefgh" + b, 8}, {strings.Repeat(" ", 1500) + b, 1500}, {"a = b;\n" + b + "= c;\n", 7},
		}
		for _, c := range cases {
			wantMalformed(t, c.source, c.want)
			checkTokens(t, c.source)
		}
	}
}

func TestP15TokenizeReportsTheFirstMalformedToken(t *testing.T) {
	bad := []string{"12345", "1.", "1.23456", ".5", "abcdefghi", "?", "A", "\t", "\r", "_", "\x00", "\x80", "\xff", "é", "0000000.00000"}
	good := []string{"", "a ", "1 ", "1.5 ", "+", "\n", "x = f(1.25, y);\n", "abcdefgh\n"}
	for _, a := range bad {
		for _, b := range bad {
			for _, start := range good {
				for _, middle := range good {
					source := start + a + " " + middle + b
					wantMalformed(t, source, len(start))
					wantMalformed(t, source+" "+a, len(start))
				}
			}
		}
	}
}

// shortestFractions is found by trying all fractions in the order of their lengths and then of their values: for each number of 256ths less than 256, the first one that is it, rounded down.
func shortestFractions() [256]string {
	var l [256]string
	for digits, power := 1, 10; digits <= 4; digits, power = digits+1, 10*power {
		for k, fraction := range allFractions(digits) {
			n := 256 * k / power
			if n > 0 && l[n] == "" {
				l[n] = "." + fraction
			}
		}
	}
	return l
}

func TestP15FormatNumber(t *testing.T) {
	fractions := shortestFractions()
	for n := range numberLimit {
		if got, want := impl.FormatNumber(n), strconv.Itoa(n/256)+fractions[n%256]; got != want {
			t.Fatalf("FormatNumber(%d) = %q, not %q", n, got, want)
		}
	}
}

func TestP15FormatNumberCases(t *testing.T) {
	cases := []struct {
		n    int
		want string
	}{
		{0, "0"}, {256, "1"}, {384, "1.5"}, {512, "2"}, {2560, "10"}, {25600, "100"}, {256000, "1000"}, {2559744, "9999"}, {2559999, "9999.997"}, {2559872, "9999.5"},
		{1, "0.004"}, {2, "0.01"}, {3, "0.012"}, {4, "0.016"}, {5, "0.02"}, {12, "0.05"}, {13, "0.051"}, {16, "0.063"}, {25, "0.1"}, {26, "0.102"}, {51, "0.2"}, {64, "0.25"}, {76, "0.3"}, {102, "0.4"}, {127, "0.497"}, {128, "0.5"}, {129, "0.504"}, {153, "0.6"}, {179, "0.7"}, {192, "0.75"}, {204, "0.8"}, {230, "0.9"}, {254, "0.993"}, {255, "0.997"},
		{257, "1.004"}, {511, "1.997"}, {281, "1.1"}, {2561, "10.004"},
		{-1, ""}, {-2, ""}, {-256, ""}, {-384, ""}, {2560000, ""}, {2560001, ""}, {2560256, ""}, {1000000000, ""}, {1 << 32, ""}, {1<<32 + 384, ""}, {1 << 56, ""}, {math.MaxInt, ""}, {math.MaxInt - 255, ""}, {math.MinInt, ""}, {math.MinInt + 384, ""},
	}
	for _, c := range cases {
		if got := impl.FormatNumber(c.n); got != c.want {
			t.Errorf("FormatNumber(%d) = %q, not %q", c.n, got, c.want)
		}
	}
	for _, n := range extremeInts() {
		if got := impl.FormatNumber(n); (n < 0 || n >= numberLimit) && got != "" {
			t.Errorf("FormatNumber(%d) = %q", n, got)
		}
	}
}

type textsCase struct {
	tokens []impl.Token
	texts  []string
	joined string
}

// tokenLists has also tokens that no source has.
func tokenLists() []textsCase {
	a, plus, half, end := nameToken("a", 0), symbolToken("+", 1), numberToken("1.5", 384, 2), endToken(5)
	named := impl.Token{Kind: 0, Text: "end", Number: 7, Offset: 3}
	bare := func(kind int) impl.Token { return impl.Token{Kind: kind, Text: "k" + strconv.Itoa(kind)} }
	return []textsCase{
		{nil, nil, ""}, {tokenList(), nil, ""}, {tokenList(end), nil, ""}, {tokenList(end, end, endToken(-9)), nil, ""}, {tokenList(named), nil, ""}, {tokenList(impl.Token{}), nil, ""},
		{tokenList(a), []string{"a"}, "a"}, {tokenList(plus), []string{"+"}, "+"}, {tokenList(half), []string{"1.5"}, "1.5"}, {tokenList(a, end), []string{"a"}, "a"},
		{tokenList(a, plus, half, end), []string{"a", "+", "1.5"}, "a + 1.5"}, {tokenList(a, plus, half), []string{"a", "+", "1.5"}, "a + 1.5"}, {tokenList(half, plus, a), []string{"1.5", "+", "a"}, "1.5 + a"}, {tokenList(a, a, a), []string{"a", "a", "a"}, "a a a"},
		{tokenList(end, a, end, end, plus, named, half, end), []string{"a", "+", "1.5"}, "a + 1.5"}, {tokenList(named, a, named), []string{"a"}, "a"}, {tokenList(a, impl.Token{}, plus), []string{"a", "+"}, "a +"},
		{tokenList(bare(1), bare(2), bare(3), bare(0)), []string{"k1", "k2", "k3"}, "k1 k2 k3"}, {tokenList(bare(-1), bare(4), bare(0), bare(1<<32), bare(math.MinInt), bare(math.MaxInt)), []string{"k-1", "k4", "k4294967296", "k-9223372036854775808", "k9223372036854775807"}, "k-1 k4 k4294967296 k-9223372036854775808 k9223372036854775807"},
		{tokenList(nameToken("", 0)), []string{""}, ""}, {tokenList(nameToken("", 0), symbolToken("", 0), end), []string{"", ""}, " "}, {tokenList(nameToken(" ", 0), numberToken("\n", 1, 0), symbolToken("é\xff\x00", 0), nameToken("A b", 9)), []string{" ", "\n", "é\xff\x00", "A b"}, "  \n é\xff\x00 A b"},
	}
}

func TestP15TokenTexts(t *testing.T) {
	for _, c := range tokenLists() {
		if got := impl.TokenTexts(c.tokens); !slices.Equal(got, c.texts) {
			t.Errorf("TokenTexts(%+v) = %q, not %q", c.tokens, got, c.texts)
		}
	}
}

func TestP15JoinTokens(t *testing.T) {
	for _, c := range tokenLists() {
		if got := impl.JoinTokens(c.tokens); got != c.joined {
			t.Errorf("JoinTokens(%+v) = %q, not %q", c.tokens, got, c.joined)
		}
	}
}

func TestP15TextsOfSources(t *testing.T) {
	cases := []struct {
		source string
		texts  []string
		joined string
	}{
		{"", nil, ""}, {" \n", nil, ""}, {"a+1.5", []string{"a", "+", "1.5"}, "a + 1.5"}, {"12ab", []string{"12", "ab"}, "12 ab"},
		{"c=f(u,\n-0.50);\n", []string{"c", "=", "f", "(", "u", ",", "-", "0.50", ")", ";"}, "c = f ( u , - 0.50 ) ;"}, {"  x1   y2\n\nz3 ", []string{"x1", "y2", "z3"}, "x1 y2 z3"}, {"?", nil, ""},
	}
	for _, c := range cases {
		l, _ := impl.Tokenize(c.source)
		if got := impl.TokenTexts(l); !slices.Equal(got, c.texts) || impl.JoinTokens(l) != c.joined {
			t.Errorf("the tokens of %q are %q, joined %q", c.source, got, impl.JoinTokens(l))
		}
	}
	// Joined tokens may be too long for a source.
	l, _ := impl.Tokenize(strings.Repeat("+", 2000))
	if joined := impl.JoinTokens(l); joined != strings.Repeat("+ ", 1999)+"+" {
		t.Errorf("2000 joined symbols have %d bytes", len(joined))
	}
}

func TestP15TokenListsAreUnchanged(t *testing.T) {
	for _, c := range tokenLists() {
		for end := range len(c.tokens) + 1 {
			kept := slices.Clone(c.tokens)
			impl.TokenTexts(c.tokens[:end])
			impl.JoinTokens(c.tokens[:end])
			if !slices.Equal(c.tokens, kept) {
				t.Fatalf("the tokens %+v became %+v", kept, c.tokens)
			}
		}
	}
}

// overwriteTokens and overwriteTexts destroy a list and the spare capacity behind it.
func overwriteTokens(l []impl.Token) {
	l = l[:cap(l)]
	for k := range l {
		l[k] = impl.Token{Kind: -1, Text: "overwritten", Number: -2, Offset: -3}
	}
}

func overwriteTexts(l []string) {
	l = l[:cap(l)]
	for k := range l {
		l[k] = "overwritten"
	}
}

func TestP15TokenResultsAreNew(t *testing.T) {
	for _, source := range []string{"", "a", "a+1.5", "c = mix(u, v, 0.5) * -x1;\n", "1 2 3 4 5 6 7 8 9"} {
		kept, _ := impl.Tokenize(source)
		texts, joined := impl.TokenTexts(kept), impl.JoinTokens(kept)
		want, wantTexts := slices.Clone(kept), slices.Clone(texts)
		other, _ := impl.Tokenize(source)
		overwriteTexts(impl.TokenTexts(other))
		overwriteTexts(append(impl.TokenTexts(kept), "more"))
		overwriteTokens(append(other, endToken(1)))
		if !slices.Equal(kept, want) || !slices.Equal(texts, wantTexts) {
			t.Errorf("the tokens of %q change with those of another call", source)
		}
		overwriteTokens(kept)
		again, at := impl.Tokenize(source)
		if !slices.Equal(again, want) || at != -1 || !slices.Equal(texts, wantTexts) || impl.JoinTokens(again) != joined {
			t.Errorf("the tokens of %q are %+v, %d when they are read again", source, again, at)
		}
	}
}

func TestP15TokenTextsAreCopies(t *testing.T) {
	for _, source := range []string{"abcdefgh", "1234.5678", "+", "abcdefgh+1234.5678(x1)"} {
		l, _ := impl.Tokenize(source)
		for _, x := range l {
			if sharesMemory(x.Text, source) {
				t.Errorf("the text %q shares the memory of its source %q", x.Text, source)
			}
		}
		for k, text := range impl.TokenTexts(l) {
			if sharesMemory(text, l[k].Text) {
				t.Errorf("the text %q shares the memory of its token", text)
			}
		}
		if joined := impl.JoinTokens(l[:1]); sharesMemory(joined, l[0].Text) {
			t.Errorf("the joined token %q shares the memory of its text", joined)
		}
	}
}

// lexerResults is what the functions of the chapter return for a source.
func lexerResults(source string) string {
	l, at := impl.Tokenize(source)
	text := fmt.Sprintf("%+v %d %q %q", l, at, impl.TokenTexts(l), impl.JoinTokens(l))
	for _, x := range l {
		text += impl.FormatNumber(x.Number) + impl.FormatNumber(at)
	}
	return text
}

// checkRepeated compares the results for every source with later ones, in another order.
func checkRepeated(t *testing.T, sources []string, results func(source string) string) {
	t.Helper()
	var first []string
	for _, source := range sources {
		first = append(first, results(source))
	}
	for k := len(sources) - 1; k >= 0; k-- {
		for range 2 {
			if got := results(sources[k]); got != first[k] {
				t.Fatalf("the results for %q are %s, and later %s", sources[k], first[k], got)
			}
		}
	}
}

func TestP15LexerFunctionsRepeatTheirResults(t *testing.T) {
	checkRepeated(t, sources(), lexerResults)
}
