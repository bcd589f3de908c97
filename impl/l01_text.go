package impl

import (
	"strconv"
	"strings"
)

const MaxNum = 1000000000

const maxIdentifier = 8

const (
	hashStart   = 17
	hashFactor  = 31
	hashModulus = 1000003
)

func FormatInt(n int) string {
	if n < -MaxNum || n > MaxNum {
		return ""
	}
	return strconv.Itoa(n)
}

func ParseInt(s string) (int, bool) {
	n, err := strconv.Atoi(s)
	// Atoi also accepts a plus sign, leading zeros and numbers beyond MaxNum;
	// none of these is what FormatInt writes.
	if err != nil || FormatInt(n) != s {
		return 0, false
	}
	return n, true
}

func IsIdentifier(s string) bool {
	if len(s) < 1 || len(s) > maxIdentifier {
		return false
	}
	for i, r := range s {
		if !isLetter(r) && (i == 0 || !isDigit(r)) {
			return false
		}
	}
	return true
}

func isLetter(r rune) bool {
	return r >= 'a' && r <= 'z'
}

func isDigit(r rune) bool {
	return r >= '0' && r <= '9'
}

// SplitAny looks at bytes, not at runes: a separator may be a part of the
// encoding of a rune, or no rune at all.
func SplitAny(s string, separators string) []string {
	var parts []string
	start := 0
	for i := range len(s) {
		if strings.IndexByte(separators, s[i]) >= 0 {
			parts = append(parts, newPart(s, start, i))
			start = i + 1
		}
	}
	return append(parts, newPart(s, start, len(s)))
}

// newPart clones the bytes of s from start up to end, because no result may
// share memory with an argument.
func newPart(s string, start int, end int) string {
	return strings.Clone(s[start:end])
}

func Join(parts []string, separator string) string {
	return joinWith(separator, parts...)
}

// joinWith does not call strings.Join, which returns a single part as it is
// and so shares its memory.
func joinWith(separator string, parts ...string) string {
	var b strings.Builder
	for i, part := range parts {
		if i > 0 {
			b.WriteString(separator)
		}
		b.WriteString(part)
	}
	return b.String()
}

func SplitLines(s string) []string {
	var lines []string
	start := 0
	for i, r := range s {
		if r == '\n' {
			lines = append(lines, newPart(s, start, i))
			start = i + 1
		}
	}
	if start < len(s) {
		lines = append(lines, newPart(s, start, len(s)))
	}
	return lines
}

func FormatInts(l []int) string {
	if len(l) == 0 {
		return "-"
	}
	var parts []string
	for _, n := range l {
		part := FormatInt(n)
		if part == "" {
			return ""
		}
		parts = append(parts, part)
	}
	return joinWith(",", parts...)
}

func ParseInts(s string) ([]int, bool) {
	if s == "-" {
		return nil, true
	}
	var l []int
	for _, part := range SplitAny(s, ",") {
		n, ok := ParseInt(part)
		if !ok {
			return nil, false
		}
		l = append(l, n)
	}
	return l, true
}

func FloorDiv(a int, b int) int {
	if b < 1 {
		return 0
	}
	q := a / b
	if a%b < 0 {
		q--
	}
	return q
}

// floorMod returns the remainder that belongs to FloorDiv: from 0 up to b.
func floorMod(a int, b int) int {
	return a - b*FloorDiv(a, b)
}

func Clamp(n int, lo int, hi int) int {
	// lo is applied last, so that it wins when hi is less than lo.
	return max(lo, min(n, hi))
}

func HashInts(l []int) int {
	h := hashStart
	for _, x := range l {
		h = floorMod(hashFactor*h+Clamp(x, -MaxNum, MaxNum), hashModulus)
	}
	return h
}
