package tests

import (
	"fmt"
	"math"
	"math/rand/v2"
	"regexp"
	"slices"
	"strconv"
	"strings"
	"testing"

	"loop.example/g00809/impl"
)

// texelCounts has the number of texels for each Log from 0 to MaxLog.
func texelCounts() []int {
	return []int{1, 4, 16, 64, 256}
}

func texture(log int, texels ...int) impl.Texture {
	return impl.Texture{Log: log, Texels: texels}
}

// textureWith has the texel at(x, y) in column x and row y.
func textureWith(log int, at func(x, y int) int) impl.Texture {
	t := impl.Texture{Log: log}
	size := []int{1, 2, 4, 8, 16}[log]
	for y := range size {
		for x := range size {
			t.Texels = append(t.Texels, at(x, y))
		}
	}
	return t
}

func documentTexture() impl.Texture {
	return texture(1, 0, 256, 0, 256)
}

// texturesOf lists valid textures of one Log: plain and regular ones, ones with a single bright or dark texel, and random ones.
func texturesOf(log int) []impl.Texture {
	r := rand.New(rand.NewPCG(15, uint64(log)))
	last := texelCounts()[log] - 1
	l := []impl.Texture{
		textureWith(log, func(x, y int) int { return 0 }),
		textureWith(log, func(x, y int) int { return 256 }),
		textureWith(log, func(x, y int) int { return 77 }),
		textureWith(log, func(x, y int) int { return 256 * (x % 2) }),
		textureWith(log, func(x, y int) int { return 256 * (y % 2) }),
		textureWith(log, func(x, y int) int { return 256 * ((x + y) % 2) }),
		textureWith(log, func(x, y int) int { return 16*y + x }),
		textureWith(log, func(x, y int) int { return 256 - 16*x - y }),
		textureWith(log, func(x, y int) int { return 256 * min(1, (x+y*16)%17) }),
		textureWith(log, func(x, y int) int { return r.IntN(257) }),
		textureWith(log, func(x, y int) int { return r.IntN(257) }),
		textureWith(log, func(x, y int) int { return 100 + r.IntN(3) }),
	}
	for _, k := range []int{0, last / 2, last} {
		bright, dark := textureCopy(l[0]), textureCopy(l[1])
		bright.Texels[k], dark.Texels[k] = 256, 0
		l = append(l, bright, dark)
	}
	return l
}

func validTextures() []impl.Texture {
	l := []impl.Texture{documentTexture()}
	for log := range texelCounts() {
		l = append(l, texturesOf(log)...)
	}
	return l
}

// noLogs lists numbers that are no Log. Some of them would be one in fewer bits, or if only the number of places of a shift counted.
func noLogs() []int {
	return []int{
		-1, 5, 6, 7, 8, -2, -4, 16, 30, 31, 32, 33, 62, 63, 64, 65, 66, 68, 128, -60, -63, -64, 256, 257, 1 << 16, 1 << 31, 1 << 32, 1<<32 + 1, 1<<32 + 4, -1 << 32, 1 << 62,
		math.MinInt, math.MinInt + 1, math.MinInt + 4, math.MaxInt - 1, math.MaxInt,
	}
}

// noTexels lists numbers that are no texel.
func noTexels() []int {
	return []int{-1, 257, -2, 258, 1000, -256, 512, 1 << 16, 1 << 32, 1<<32 + 1, -1 << 32, math.MinInt, math.MinInt + 1, math.MaxInt}
}

// invalidTextures lists textures with one fault.
func invalidTextures() []impl.Texture {
	l := []impl.Texture{{}, {Texels: []int{}}, {Log: 4}, {Log: 1, Texels: make([]int, 0, 4)}}
	ones := slices.Repeat([]int{1}, 1025)
	for log, count := range texelCounts() {
		for _, n := range []int{0, 1, 2, 3, 4, 5, 8, 15, 16, 17, 32, 63, 64, 65, 128, 255, 256, 257, 1024, count - 1, count + 1, 2 * count, 4 * count} {
			if n != count {
				l = append(l, texture(log, ones[:n:n]...), texture(log, slices.Clone(ones[:n])...))
			}
		}
		for _, n := range noTexels() {
			for _, k := range []int{0, 1, count / 2, count - 2, count - 1} {
				if k >= 0 && k < count {
					t := textureWith(log, func(x, y int) int { return 5 })
					t.Texels[k] = n
					l = append(l, t)
				}
			}
		}
	}
	for _, log := range noLogs() {
		for _, n := range append(texelCounts(), 0, 2, 8, 1024) {
			l = append(l, texture(log, slices.Clone(ones[:n])...))
		}
	}
	return l
}

func textureCopy(t impl.Texture) impl.Texture {
	return impl.Texture{Log: t.Log, Texels: slices.Clone(t.Texels)}
}

func equalTextures(a, b impl.Texture) bool {
	return a.Log == b.Log && slices.Equal(a.Texels, b.Texels)
}

func isZeroTexture(t impl.Texture) bool {
	return t.Log == 0 && len(t.Texels) == 0
}

func wantValidTexture(t impl.Texture) bool {
	counts := texelCounts()
	if t.Log < 0 || t.Log >= len(counts) || len(t.Texels) != counts[t.Log] {
		return false
	}
	return slices.Min(t.Texels) >= 0 && slices.Max(t.Texels) <= 256
}

// wantRows cuts the texels of a valid texture into its rows.
func wantRows(t impl.Texture) [][]int {
	return slices.Collect(slices.Chunk(t.Texels, []int{1, 2, 4, 8, 16}[t.Log]))
}

// wantTexel repeats a valid texture in both directions.
func wantTexel(t impl.Texture, x, y int) int {
	rows := wantRows(t)
	modulo := func(n int) int {
		n %= len(rows)
		if n < 0 {
			return n + len(rows)
		}
		return n
	}
	return rows[modulo(y)][modulo(x)]
}

func wantHalf(t impl.Texture) (impl.Texture, bool) {
	if !wantValidTexture(t) || t.Log == 0 {
		return impl.Texture{}, false
	}
	rows := wantRows(t)
	return textureWith(t.Log-1, func(x, y int) int {
		upper, lower := rows[2*y], rows[2*y+1]
		return int(math.Floor(float64(upper[2*x]+upper[2*x+1]+lower[2*x]+lower[2*x+1]) / 4))
	}), true
}

func wantMip(t impl.Texture, level int) (impl.Texture, bool) {
	if !wantValidTexture(t) || level < 0 || level > t.Log {
		return impl.Texture{}, false
	}
	for range level {
		t, _ = wantHalf(t)
	}
	return t, true
}

// wantLookup follows the document's formula; m is the mip level.
func wantLookup(m impl.Texture, u, v int) int {
	place := func(position int) (int, int) {
		s := within(position, -1000000, 1000000)*len(wantRows(m)) - 128
		x := int(math.Floor(float64(s) / 256))
		return x, s - 256*x
	}
	x, fx := place(u)
	y, fy := place(v)
	sum := wantTexel(m, x, y)*(256-fx)*(256-fy) + wantTexel(m, x+1, y)*fx*(256-fy) + wantTexel(m, x, y+1)*(256-fx)*fy + wantTexel(m, x+1, y+1)*fx*fy
	return int(math.Floor(float64(sum) / 65536))
}

// wantTextureText writes a texture that may have any numbers.
func wantTextureText(t impl.Texture) string {
	var words []string
	for _, n := range t.Texels {
		words = append(words, strconv.Itoa(n))
	}
	return fmt.Sprintf("%d:%s", t.Log, strings.Join(words, ","))
}

// textureTexts has a pattern for the texts of each Log. A number is one from 0 to 256 without leading zeros.
func textureTexts() []*regexp.Regexp {
	const number = "(0|[1-9][0-9]?|1[0-9][0-9]|2[0-4][0-9]|25[0-6])"
	var l []*regexp.Regexp
	for log, count := range texelCounts() {
		l = append(l, regexp.MustCompile(fmt.Sprintf(`\A%d:%s(,%s){%d}\z`, log, number, number, count-1)))
	}
	return l
}

func isTextureText(patterns []*regexp.Regexp, s string) bool {
	return slices.ContainsFunc(patterns, func(p *regexp.Regexp) bool { return p.MatchString(s) })
}

// checkTextureText compares ParseTexture with the patterns of all texts.
func checkTextureText(t *testing.T, patterns []*regexp.Regexp, s string) {
	t.Helper()
	got, ok := impl.ParseTexture(s)
	if want := isTextureText(patterns, s); ok != want {
		t.Fatalf("ParseTexture(%q) = %v, %v", s, got, ok)
	}
	if ok && (wantTextureText(got) != s || impl.FormatTexture(got) != s || !wantValidTexture(got)) {
		t.Fatalf("ParseTexture(%q) = %v, whose text is %q", s, got, impl.FormatTexture(got))
	}
	if !ok && !isZeroTexture(got) {
		t.Fatalf("ParseTexture(%q) = %v, false", s, got)
	}
}

func checkHalf(t *testing.T, x impl.Texture) {
	t.Helper()
	want, wantOk := wantHalf(x)
	if got, ok := impl.HalfTexture(x); ok != wantOk || !equalTextures(got, want) {
		t.Fatalf("HalfTexture(%v) = %v, %v, not %v, %v", x, got, ok, want, wantOk)
	}
}

func checkMip(t *testing.T, x impl.Texture, level int) {
	t.Helper()
	want, wantOk := wantMip(x, level)
	if got, ok := impl.MipLevel(x, level); ok != wantOk || !equalTextures(got, want) {
		t.Fatalf("MipLevel(%v, %d) = %v, %v, not %v, %v", x, level, got, ok, want, wantOk)
	}
}

// checkLookup compares Lookup with the document's formula at all places with a u and a v of the list.
func checkLookup(t *testing.T, x impl.Texture, level int, list []int) {
	t.Helper()
	m, _ := wantMip(x, within(level, 0, x.Log))
	for _, u := range list {
		for _, v := range list {
			if got, want := impl.Lookup(x, u, v, level), wantLookup(m, u, v); got != want {
				t.Fatalf("Lookup(%v, %d, %d, %d) = %d, not %d", x, u, v, level, got, want)
			}
		}
	}
}

// texturePlaces lists positions at and around texels, sides of the texture and the ends of the range.
func texturePlaces() []int {
	l := []int{math.MinInt, math.MinInt + 1, math.MinInt / 2, -1 << 60, -1 << 59, -1 << 32, 1<<32 + 64, 1 << 59, 1 << 60, 1<<62 + 1, math.MaxInt - 1, math.MaxInt}
	for _, n := range []int{-1000000, -513, -256, -128, -64, -8, 0, 8, 16, 32, 64, 128, 192, 256, 300, 512, 123456, 1000000} {
		l = append(l, n-1, n, n+1)
	}
	return l
}

// textureLevels lists levels below, within and above those of all textures.
func textureLevels() []int {
	return []int{0, 1, 2, 3, 4, 5, 6, -1, -2, -4, 31, 32, 63, 64, 65, 1 << 32, 1<<32 + 1, -1 << 32, 1 << 62, math.MinInt, math.MinInt + 1, math.MaxInt - 1, math.MaxInt}
}

func TestP7LookupStaysWithinTheTexels(t *testing.T) {
	for _, x := range validTextures() {
		least, most := slices.Min(x.Texels), slices.Max(x.Texels)
		for _, level := range []int{-1, 0, 1, 2, 3, 4, 5} {
			for _, u := range texturePlaces() {
				for _, v := range []int{u, -u, 64, 0, 999983} {
					if got := impl.Lookup(x, u, v, level); got < least || got > most {
						t.Fatalf("Lookup(%v, %d, %d, %d) = %d", x, u, v, level, got)
					}
				}
			}
		}
	}
}

func TestP7MipLevelsStayWithinTheTexels(t *testing.T) {
	for _, x := range validTextures() {
		for level := range x.Log + 1 {
			m, ok := impl.MipLevel(x, level)
			if !ok || !impl.IsValidTexture(m) || slices.Min(m.Texels) < slices.Min(x.Texels) || slices.Max(m.Texels) > slices.Max(x.Texels) {
				t.Fatalf("MipLevel(%v, %d) = %v, %v", x, level, m, ok)
			}
		}
	}
}

func TestP7TexelsAreThoseOfTheTexture(t *testing.T) {
	for _, x := range validTextures() {
		for _, n := range texturePlaces() {
			for _, k := range []int{n, -n, 1, 2, 3} {
				if got := impl.Texel(x, n, k); !slices.Contains(x.Texels, got) {
					t.Fatalf("Texel(%v, %d, %d) = %d", x, n, k, got)
				}
			}
		}
	}
}

// At the center of a texel the value is that of the texel, between two of them it does not leave their range.
func TestP7LookupLiesBetweenAdjacentTexels(t *testing.T) {
	for _, x := range validTextures() {
		for level := range x.Log + 1 {
			m, _ := wantMip(x, level)
			side := len(wantRows(m))
			step := 256 / side
			for j := -1; j <= side; j++ {
				for i := -1; i <= side; i++ {
					u, v := step*i+step/2, step*j+step/2
					a, b := wantTexel(m, i, j), wantTexel(m, i+1, j)
					if got := impl.Lookup(x, u, v, level); got != a {
						t.Fatalf("Lookup(%v, %d, %d, %d) = %d, not the texel %d", x, u, v, level, got, a)
					}
					for _, f := range []int{1, step / 2, step - 1} {
						if got := impl.Lookup(x, u+f, v, level); got < min(a, b) || got > max(a, b) {
							t.Fatalf("Lookup(%v, %d, %d, %d) = %d, between the texels %d and %d", x, u+f, v, level, got, a, b)
						}
					}
				}
			}
		}
	}
}

func TestP7LookupRepeatsTheTexture(t *testing.T) {
	for _, x := range validTextures() {
		for _, u := range []int{0, 1, 8, 63, 64, 100, 128, 191, 255} {
			want := impl.Lookup(x, u, 255-u, 1)
			for _, n := range []int{-3905, -100, -1, 1, 2, 3905} {
				if got := impl.Lookup(x, u+256*n, 255-u-256*n, 1); got != want {
					t.Fatalf("Lookup(%v, %d, %d, 1) = %d, but %d without %d times 256", x, u+256*n, 255-u-256*n, got, want, n)
				}
			}
		}
	}
}

func TestP15MaxLog(t *testing.T) {
	if impl.MaxLog != 4 {
		t.Errorf("MaxLog is %d", impl.MaxLog)
	}
}

func TestP15IsValidTexture(t *testing.T) {
	for _, x := range validTextures() {
		if !impl.IsValidTexture(x) {
			t.Fatalf("%v is not valid", x)
		}
	}
	for _, x := range invalidTextures() {
		if impl.IsValidTexture(x) {
			t.Fatalf("%v is valid", x)
		}
	}
}

// Every texel may have every value from 0 to 256 and no other one.
func TestP15IsValidTextureLooksAtEveryTexel(t *testing.T) {
	for log, count := range texelCounts() {
		x := textureWith(log, func(x, y int) int { return 9 })
		for k := range count {
			for _, n := range []int{0, 1, 255, 256, -1, 257} {
				x.Texels[k] = n
				if got := impl.IsValidTexture(x); got != (n >= 0 && n <= 256) {
					t.Fatalf("IsValidTexture is %v if the texel %d of %d is %d", got, k, count, n)
				}
			}
			x.Texels[k] = 9
		}
	}
}

func TestP15TexelOfEveryPlace(t *testing.T) {
	for _, x := range validTextures() {
		rows := wantRows(x)
		side := len(rows)
		for y, row := range rows {
			for k, want := range row {
				for _, n := range []int{0, 1, -1, 2, -3, 100, -1000} {
					if got := impl.Texel(x, k+n*side, y-n*side); got != want {
						t.Fatalf("Texel(%v, %d, %d) = %d, not %d", x, k+n*side, y-n*side, got, want)
					}
				}
			}
		}
	}
}

func TestP15TexelOfPlacesBeyondTheTexture(t *testing.T) {
	if got := impl.Texel(documentTexture(), -1, 0); got != 256 {
		t.Errorf("Texel({1 [0 256 0 256]}, -1, 0) = %d", got)
	}
	places := append(extremeInts(), -257, -256, -18, -17, -16, -15, -9, -8, -5, -4, 4, 5, 7, 8, 9, 15, 16, 17, 31, 32, 1<<32+3, -1<<32-3, math.MaxInt-15, math.MinInt+15)
	for _, x := range validTextures() {
		for _, i := range places {
			for _, j := range places {
				if got, want := impl.Texel(x, i, j), wantTexel(x, i, j); got != want {
					t.Fatalf("Texel(%v, %d, %d) = %d, not %d", x, i, j, got, want)
				}
			}
		}
	}
}

func TestP15TexelOfTexturesThatAreNotValid(t *testing.T) {
	for _, x := range invalidTextures() {
		for _, i := range []int{0, 1, 3, -1, 15, 16, math.MinInt, math.MaxInt} {
			for _, j := range []int{0, -1, math.MaxInt} {
				if got := impl.Texel(x, i, j); got != 0 {
					t.Fatalf("Texel(%v, %d, %d) = %d", x, i, j, got)
				}
			}
		}
	}
}

func TestP15HalfTexture(t *testing.T) {
	for _, c := range []struct{ x, want impl.Texture }{
		{documentTexture(), texture(0, 128)},
		{texture(1, 0, 0, 0, 0), texture(0, 0)},
		{texture(1, 256, 256, 256, 256), texture(0, 256)},
		{texture(1, 1, 0, 0, 0), texture(0, 0)},
		{texture(1, 0, 1, 1, 1), texture(0, 0)},
		{texture(1, 1, 1, 1, 1), texture(0, 1)},
		{texture(1, 255, 256, 256, 256), texture(0, 255)},
		{texture(1, 10, 20, 30, 41), texture(0, 25)},
		{texture(1, 10, 20, 30, 42), texture(0, 25)},
		{texture(1, 10, 20, 30, 43), texture(0, 25)},
		{texture(1, 10, 20, 30, 44), texture(0, 26)},
		{texture(2, 0, 4, 8, 12, 16, 20, 24, 28, 100, 104, 108, 112, 116, 120, 124, 128), texture(1, 10, 18, 110, 118)},
		{texture(2, 1, 0, 0, 2, 0, 0, 2, 2, 3, 3, 200, 0, 3, 0, 0, 256), texture(1, 0, 1, 2, 114)},
	} {
		if got, ok := impl.HalfTexture(c.x); !ok || !equalTextures(got, c.want) {
			t.Errorf("HalfTexture(%v) = %v, %v, not %v", c.x, got, ok, c.want)
		}
	}
	for _, x := range append(validTextures(), invalidTextures()...) {
		checkHalf(t, x)
	}
}

// Every texel of the argument has a part in one texel of the result.
func TestP15HalfTextureOfSingleTexels(t *testing.T) {
	for log := 1; log <= 4; log++ {
		for k := range texelCounts()[log] {
			x := textureWith(log, func(x, y int) int { return 3 })
			for _, n := range []int{0, 6, 7, 8, 11, 256} {
				x.Texels[k] = n
				checkHalf(t, x)
			}
		}
	}
}

func TestP15HalfTextureIsHalvedAgain(t *testing.T) {
	for _, first := range validTextures() {
		got, want := first, first
		for log := first.Log; log > 0; log-- {
			half, ok := impl.HalfTexture(got)
			want, _ = wantHalf(want)
			if !ok || half.Log != log-1 || !equalTextures(half, want) {
				t.Fatalf("HalfTexture(%v) = %v, %v, not %v", got, half, ok, want)
			}
			got = half
		}
		if none, ok := impl.HalfTexture(got); ok || !isZeroTexture(none) {
			t.Fatalf("HalfTexture(%v) = %v, %v", got, none, ok)
		}
	}
}

func TestP15MipLevel(t *testing.T) {
	for _, x := range append(validTextures(), invalidTextures()...) {
		for _, level := range append(textureLevels(), x.Log, x.Log+1, x.Log-1, -x.Log) {
			checkMip(t, x, level)
		}
	}
}

func TestP15MipLevelRoundsEachHalf(t *testing.T) {
	// Four blocks with the sum 3 have the averages 0; one division by 16 would make 12 / 16 of them, and rounding up 1.
	x := texture(2, 3, 0, 3, 0, 0, 0, 0, 0, 3, 0, 255, 0, 0, 0, 0, 0)
	for level, want := range []impl.Texture{x, texture(1, 0, 0, 0, 63), texture(0, 15)} {
		if got, ok := impl.MipLevel(x, level); !ok || !equalTextures(got, want) {
			t.Errorf("MipLevel(%v, %d) = %v, %v, not %v", x, level, got, ok, want)
		}
	}
}

func TestP15LookupExample(t *testing.T) {
	x := documentTexture()
	for _, c := range []struct{ u, v, level, want int }{
		{64, 64, 0, 0}, {128, 64, 0, 128}, {192, 64, 0, 256}, {0, 64, 0, 128}, {256, 0, 0, 128}, {-64, 5, 0, 256},
		{96, 100, 0, 64}, {65, 64, 0, 2}, {65, 1000001, 0, 2}, {63, 64, 0, 2}, {191, 64, -1, 254}, {64, 64, 1, 128}, {192, 0, 9, 128}, {math.MinInt, 0, 0, 256}, {-1000000, 64, 0, 256}, {math.MaxInt, math.MinInt, 0, 0}, {1000000, 64, 0, 0}, {999999, 64, 0, 2},
	} {
		if got := impl.Lookup(x, c.u, c.v, c.level); got != c.want {
			t.Errorf("Lookup(%v, %d, %d, %d) = %d, not %d", x, c.u, c.v, c.level, got, c.want)
		}
	}
}

func TestP15LookupIsRoundedOnce(t *testing.T) {
	for _, c := range []struct {
		x          impl.Texture
		u, v, want int
	}{
		{texture(1, 0, 1, 0, 1), 191, 64, 0}, {texture(1, 1, 0, 0, 1), 128, 128, 0}, {texture(1, 0, 3, 0, 0), 128, 128, 0}, {texture(1, 0, 3, 1, 0), 128, 128, 1}, {texture(1, 1, 2, 2, 2), 128, 128, 1},
		{texture(1, 256, 255, 256, 256), 65, 64, 255}, {texture(1, 1, 1, 0, 1), 128, 64, 1}, {texture(1, 3, 0, 2, 3), 128, 128, 2}, {texture(1, 0, 256, 128, 64), 128, 128, 112}, {texture(1, 0, 256, 128, 64), 80, 112, 65}, {texture(1, 0, 256, 128, 64), 79, 112, 63},
	} {
		if got := impl.Lookup(c.x, c.u, c.v, 0); got != c.want {
			t.Errorf("Lookup(%v, %d, %d, 0) = %d, not %d", c.x, c.u, c.v, got, c.want)
		}
	}
}

func TestP15LookupOfAllPlaces(t *testing.T) {
	places := texturePlaces()
	for log := range texelCounts() {
		for _, x := range texturesOf(log)[3:12] {
			for level := range log + 1 {
				checkLookup(t, x, level, places)
			}
		}
	}
}

// All positions of a side of the texture, and beyond its ends.
func TestP15LookupOfAdjacentPositions(t *testing.T) {
	for log := range texelCounts() {
		x := texturesOf(log)[9]
		for level := range log + 1 {
			m, _ := wantMip(x, level)
			for u := -300; u <= 600; u++ {
				for _, v := range []int{7 * u, 64, 256 - u} {
					if got, want := impl.Lookup(x, u, v, level), wantLookup(m, u, v); got != want {
						t.Fatalf("Lookup(%v, %d, %d, %d) = %d, not %d", x, u, v, level, got, want)
					}
				}
			}
		}
	}
}

func TestP15LookupLimitsItsArguments(t *testing.T) {
	few := []int{math.MinInt, -1000001, -1000000, -1, 0, 31, 200, 999999, 1000000, 1000001, math.MaxInt}
	for _, x := range validTextures() {
		for _, level := range append(textureLevels(), x.Log, x.Log+1, x.Log-1) {
			checkLookup(t, x, level, few)
		}
	}
}

func TestP15LookupOfOneTexel(t *testing.T) {
	for n := range 257 {
		for _, u := range []int{math.MinInt, -1000000, -129, -128, 0, 1, 127, 128, 255, 1000000, math.MaxInt} {
			if got := impl.Lookup(texture(0, n), u, 17-u, u); got != n {
				t.Fatalf("Lookup({0 [%d]}, %d, %d, %d) = %d", n, u, 17-u, u, got)
			}
		}
	}
}

func TestP15LookupOfTexturesThatAreNotValid(t *testing.T) {
	for _, x := range invalidTextures() {
		for _, level := range []int{0, 1, -1, 4, 5, x.Log, x.Log - 1, math.MinInt, math.MaxInt} {
			for _, u := range []int{0, 64, -1000000, math.MaxInt, math.MinInt} {
				if got := impl.Lookup(x, u, 64, level); got != 0 {
					t.Fatalf("Lookup(%v, %d, 64, %d) = %d", x, u, level, got)
				}
			}
		}
	}
}

func TestP15FormatTexture(t *testing.T) {
	for _, c := range []struct {
		x    impl.Texture
		want string
	}{
		{documentTexture(), "1:0,256,0,256"}, {texture(0, 0), "0:0"}, {texture(0, 256), "0:256"}, {texture(0, 7), "0:7"}, {impl.Texture{}, ""}, {texture(0, 257), ""}, {texture(5, 1), ""}, {texture(-1, 1), ""},
		{texture(2, 0, 1, 2, 3, 4, 5, 6, 7, 8, 9, 10, 99, 100, 101, 255, 256), "2:0,1,2,3,4,5,6,7,8,9,10,99,100,101,255,256"},
	} {
		if got := impl.FormatTexture(c.x); got != c.want {
			t.Errorf("FormatTexture(%v) = %q, not %q", c.x, got, c.want)
		}
	}
	for _, x := range validTextures() {
		if got, want := impl.FormatTexture(x), wantTextureText(x); got != want {
			t.Fatalf("FormatTexture(%v) = %q, not %q", x, got, want)
		}
	}
	for _, x := range invalidTextures() {
		if got := impl.FormatTexture(x); got != "" {
			t.Fatalf("FormatTexture(%v) = %q", x, got)
		}
	}
}

func TestP15TexturesAreRecovered(t *testing.T) {
	for _, x := range validTextures() {
		if got, ok := impl.ParseTexture(impl.FormatTexture(x)); !ok || !equalTextures(got, x) {
			t.Fatalf("ParseTexture(%q) = %v, %v", impl.FormatTexture(x), got, ok)
		}
		got, ok := impl.MipLevel(x, x.Log/2)
		if again, fine := impl.ParseTexture(impl.FormatTexture(got)); !ok || !fine || !equalTextures(got, again) {
			t.Fatalf("%v becomes %v, %v", got, again, fine)
		}
	}
}

func TestP15TexturesThatAreNotValidAreNotRead(t *testing.T) {
	for _, x := range invalidTextures() {
		s := wantTextureText(x)
		if got, ok := impl.ParseTexture(s); ok || !isZeroTexture(got) {
			t.Fatalf("ParseTexture(%q) = %v, %v", s, got, ok)
		}
	}
}

func TestP15ParseTextureOfMalformedTexts(t *testing.T) {
	for _, s := range []string{
		"", ":", "::", "0", "1", "0:", ":0", "0:-", "0:--", "0:-0", "-:0", "-", "-0:0", "00:0", "+0:0", "0:+0", "0:00", "0:01", "0:0:", ":0:0", "0::0", "0:0:0", "0;0", "0,0", "0 0", "0.0", "00", "0:0,", "0:,0", "0:,", "0:0,0",
		" 0:0", "0 :0", "0: 0", "0:0 ", "0:0\n", "\n0:0", "0:0\x00", "0\t:0", "0:0x0", "0x0:0", "0:1e0", "0:0.0", "0:1_0", "0:257", "0:-1", "0:1000", "0:256 ", "1:0", "1:0,0,0", "1:0,0,0,0,0", "1:0,0,0,0,", "1:,0,0,0", "1:0,,0,0", "1:0,0,0,257", "1:-1,0,0,0", "1:0,0,-1,0", "1:0 0 0 0", "1:0:0:0:0", "1:0,0,0,0:", "1:0;0;0;0", "1,0,0,0,0", "1 0,0,0,0", "10,0,0,0", "1:0,0,0,00", "1:00,0,0,0", "1:0,0,+1,0", "1: 0,0,0,0", "1:0, 0,0,0", "1:0,0,0,0 ", "01:0,0,0,0", "+1:0,0,0,0", "-1:0,0,0,0", "2:0,0,0,0", "4:0", "5:0", "-1:0", "1:-", "2:-", "4:-", "4294967296:0", "4294967297:0,0,0,0", "18446744073709551616:0", "18446744073709551617:0,0,0,0", "0:18446744073709551616", "0:4294967296", "0:1000000001", "1000000001:0", "0:-9223372036854775808", "0:９", "０:0", "0：0", "0:0é", "\xff:0", "0:\xff", "1:0,256,0,256,", "{1 [0 256 0 256]}", "[0 256 0 256]", "1:[0,256,0,256]",
		"5:" + strings.Repeat("1,", 1023) + "1", "4:" + strings.Repeat("1,", 254) + "1", "4:" + strings.Repeat("1,", 256) + "1", "4:" + strings.Repeat("1,", 256), "3:" + strings.Repeat("1,", 255) + "1", "1:" + strings.Repeat(",", 3), strings.Repeat("0:", 1<<16), strings.Repeat(":", 1<<16), "0:" + strings.Repeat("0", 1<<16), "0:" + strings.Repeat("0,", 1<<16) + "0",
	} {
		if got, ok := impl.ParseTexture(s); ok || !isZeroTexture(got) {
			t.Errorf("ParseTexture(%.40q) = %v, %v", s, got, ok)
		}
	}
}

func TestP15ParseTextureAcceptsOnlyWhatIsWritten(t *testing.T) {
	patterns := textureTexts()
	for _, s := range wordsOver([]string{"0", "1", "2", "56", "-", "+", " ", ":", ","}, 5) {
		checkTextureText(t, patterns, s)
		checkTextureText(t, patterns, "0:"+s)
		checkTextureText(t, patterns, "1:0,1"+s+",256")
	}
	for n := -300; n <= 1300; n++ {
		checkTextureText(t, patterns, fmt.Sprintf("0:%d", n))
		checkTextureText(t, patterns, fmt.Sprintf("%d:0", n))
		checkTextureText(t, patterns, fmt.Sprintf("1:0,0,%d,0", n))
		checkTextureText(t, patterns, fmt.Sprintf("%d:0,1,2,3", n))
	}
}

// One letter of a text is missing, is another one, or is preceded by another one.
func TestP15ParseTextureOfChangedTexts(t *testing.T) {
	patterns := textureTexts()
	for _, x := range []impl.Texture{texture(0, 256), documentTexture(), texturesOf(2)[9], texturesOf(3)[9], texturesOf(4)[9]} {
		s := impl.FormatTexture(x)
		for k := 0; k <= len(s); k += 1 + len(s)/100 {
			for _, letter := range []string{"", "0", "1", "2", "9", ":", ",", "-", "+", " ", "\n", "a", "\xff"} {
				checkTextureText(t, patterns, s[:k]+letter+s[k:])
				if k < len(s) {
					checkTextureText(t, patterns, s[:k]+letter+s[k+1:])
				}
			}
		}
	}
}

// roomyTexture has room behind its texels, which is filled with numbers that are no texels.
func roomyTexture(x impl.Texture) impl.Texture {
	texels := append(slices.Clone(x.Texels), slices.Repeat([]int{-7}, 300)...)
	return impl.Texture{Log: x.Log, Texels: texels[:len(x.Texels)]}
}

// textureResults is what the functions of the chapter return for a texture.
func textureResults(x impl.Texture) string {
	half, ok := impl.HalfTexture(x)
	text := fmt.Sprint(impl.IsValidTexture(x), half.Log, half.Texels, ok, impl.FormatTexture(x))
	for _, n := range []int{-1, 0, 1, 2, 3, 4, 5, x.Log} {
		m, ok := impl.MipLevel(x, n)
		text += fmt.Sprint(" ", m.Log, m.Texels, ok, impl.Texel(x, n, 3*n), impl.Lookup(x, 100*n, 77-n, n))
	}
	again, ok := impl.ParseTexture(impl.FormatTexture(x))
	return text + fmt.Sprint(again.Log, again.Texels, ok)
}

func TestP15TextureFunctionsChangeNothing(t *testing.T) {
	for _, x := range append(validTextures(), invalidTextures()...) {
		y := roomyTexture(x)
		before := slices.Clone(y.Texels[:cap(y.Texels)])
		textureResults(y)
		if !slices.Equal(y.Texels[:cap(y.Texels)], before) {
			t.Fatalf("%v became %v", before, y.Texels[:cap(y.Texels)])
		}
	}
}

// The results stay the same, with those for others in between, and do not depend on what is behind the texels.
func TestP15TextureFunctionsRepeatTheirResults(t *testing.T) {
	all := append(validTextures(), invalidTextures()...)
	var first []string
	for _, x := range all {
		first = append(first, textureResults(x))
	}
	for k := len(all) - 1; k >= 0; k-- {
		for _, x := range []impl.Texture{all[k], all[k], roomyTexture(all[k])} {
			if got := textureResults(x); got != first[k] {
				t.Fatalf("the results for %v are %s, and later %s", x, first[k], got)
			}
		}
	}
	checkRepeated(t, []string{"0:1", "1:0,256,0,256", "1:0,256,0", "", "0:256", "0:257"}, func(source string) string {
		return fmt.Sprint(impl.ParseTexture(source))
	})
}

// A result keeps its texels when the argument and other results are overwritten, and the argument when a result is.
func TestP15TextureResultsAreNew(t *testing.T) {
	for _, first := range validTextures() {
		results := []func(x impl.Texture) (impl.Texture, bool){
			impl.HalfTexture,
			func(x impl.Texture) (impl.Texture, bool) { return impl.ParseTexture(impl.FormatTexture(x)) },
		}
		for level := range first.Log + 1 {
			results = append(results, func(x impl.Texture) (impl.Texture, bool) { return impl.MipLevel(x, level) })
		}
		for k, result := range results {
			x := roomyTexture(first)
			kept, ok := result(x)
			if !ok {
				continue
			}
			want := textureCopy(kept)
			other, _ := result(x)
			overwrite(other.Texels)
			if !equalTextures(x, first) || !equalTextures(kept, want) {
				t.Fatalf("result %d for %v shares memory: it is %v, the argument %v", k, first, kept, x)
			}
			if again, _ := result(x); !equalTextures(again, want) {
				t.Fatalf("result %d for %v becomes %v", k, first, again)
			}
			overwrite(x.Texels)
			if !equalTextures(kept, want) {
				t.Fatalf("result %d for %v changes with its argument: %v", k, first, kept)
			}
		}
	}
}
