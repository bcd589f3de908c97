package tests

import (
	"math"
	"math/big"
	"strconv"
	"strings"
	"testing"

	"loop.example/g00809/impl"
)

func vec(x, y, z int) impl.Vec {
	return impl.Vec{X: x, Y: y, Z: z}
}

func parts(v impl.Vec) [3]int {
	return [3]int{v.X, v.Y, v.Z}
}

func vecOf(component func(k int) int) impl.Vec {
	return vec(component(0), component(1), component(2))
}

func within(n, lo, hi int) int {
	return min(max(n, lo), hi)
}

// clampedVec is written without the program's own Clamp, so that it can be what the program is compared with.
func clampedVec(v impl.Vec) impl.Vec {
	return vecOf(func(k int) int { return within(parts(v)[k], -1000000, 1000000) })
}

// coordinates lists components inside, at the ends of and beyond the range.
func coordinates() []int {
	return []int{
		0, 1, -1, 2, -3, 7, 255, -256, 257, 4096, -4097, 99999, -123457, 500000, -500001, 999999, -999999, 1000000, -1000000,
		1000001, -1000001, 1000000000, -1000000001, math.MaxInt, math.MinInt, math.MaxInt - 1, math.MinInt + 1,
	}
}

// anyVecs lists vectors whose components are coordinates in many combinations.
func anyVecs() []impl.Vec {
	c := coordinates()
	var l []impl.Vec
	for i := range c {
		l = append(l, vec(c[i], c[i], c[i]), vec(c[i], 0, 0), vec(0, c[i], 0), vec(0, 0, c[i]))
		l = append(l, vec(c[i], c[(5*i+3)%len(c)], c[(7*i+11)%len(c)]), vec(c[(4*i+1)%len(c)], c[i], c[(2*i+9)%len(c)]))
	}
	return l
}

func validVecs() []impl.Vec {
	var l []impl.Vec
	for _, v := range anyVecs() {
		if v == clampedVec(v) {
			l = append(l, v)
		}
	}
	return l
}

// smallVecs lists vectors whose sums and products with small numbers stay in range.
func smallVecs() []impl.Vec {
	return []impl.Vec{
		{}, vec(1, 0, 0), vec(0, 1, 0), vec(0, 0, 1), vec(-1, -1, -1), vec(1, 2, 3), vec(-3, 5, -7),
		vec(255, -256, 257), vec(1000, -2000, 30), vec(-4096, 4095, 17), vec(777, 7777, -7777),
	}
}

// fractions lists pairs of an index and a count that Lerp accepts.
func fractions() [][2]int {
	var l [][2]int
	for _, n := range []int{1, 2, 3, 5, 16, 255, 4095, 4096} {
		for _, i := range []int{0, 1, 2, n / 3, n / 2, n - 1, n} {
			if i <= n {
				l = append(l, [2]int{i, n})
			}
		}
	}
	return l
}

func TestP2SumsAndDifferencesSatisfyTheLaws(t *testing.T) {
	for _, a := range validVecs() {
		if impl.Add(a, impl.Vec{}) != a || impl.SubVec(a, impl.Vec{}) != a || impl.SubVec(a, a) != (impl.Vec{}) {
			t.Errorf("adding or subtracting zero or itself changes %v", a)
		}
		for _, b := range validVecs() {
			if impl.Add(a, b) != impl.Add(b, a) {
				t.Errorf("Add(%v, %v) depends on the order", a, b)
			}
			if impl.SubVec(a, b) != impl.Add(a, impl.SubVec(impl.Vec{}, b)) {
				t.Errorf("SubVec(%v, %v) is not the sum with the negative", a, b)
			}
			if impl.SubVec(a, b) != impl.SubVec(impl.Vec{}, impl.SubVec(b, a)) {
				t.Errorf("SubVec(%v, %v) is not the negative of the reverse", a, b)
			}
		}
	}
	for _, a := range smallVecs() {
		for _, b := range smallVecs() {
			if impl.SubVec(impl.Add(a, b), b) != a {
				t.Errorf("%v is not recovered from its sum with %v", a, b)
			}
			for _, c := range smallVecs() {
				if impl.Add(impl.Add(a, b), c) != impl.Add(a, impl.Add(b, c)) {
					t.Errorf("the sum of %v, %v and %v depends on the grouping", a, b, c)
				}
			}
		}
	}
}

func TestP2DotProductsSatisfyTheLaws(t *testing.T) {
	for _, a := range validVecs() {
		if d := impl.Dot(a, a); d < 0 || (d == 0) != (a == impl.Vec{}) {
			t.Errorf("Dot of %v with itself is %d", a, d)
		}
		for _, b := range validVecs() {
			if impl.Dot(a, b) != impl.Dot(b, a) {
				t.Errorf("Dot(%v, %v) depends on the order", a, b)
			}
			if impl.Dot(a, impl.SubVec(impl.Vec{}, b)) != -impl.Dot(a, b) {
				t.Errorf("Dot(%v, -%v) is not the negative of Dot", a, b)
			}
			d := big.NewInt(int64(impl.Dot(a, b)))
			lengths := new(big.Int).Mul(big.NewInt(int64(impl.Dot(a, a))), big.NewInt(int64(impl.Dot(b, b))))
			if d.Mul(d, d).Cmp(lengths) > 0 {
				t.Errorf("Dot(%v, %v) exceeds the product of the lengths", a, b)
			}
		}
	}
	for _, a := range smallVecs() {
		for _, b := range smallVecs() {
			for _, c := range smallVecs() {
				if impl.Dot(impl.Add(a, b), c) != impl.Dot(a, c)+impl.Dot(b, c) {
					t.Errorf("Dot of %v + %v with %v is not distributive", a, b, c)
				}
			}
		}
	}
}

func TestP2InterpolationStaysBetweenItsEnds(t *testing.T) {
	for _, a := range validVecs() {
		for _, b := range validVecs() {
			for _, f := range fractions() {
				i, n := f[0], f[1]
				v := impl.Lerp(a, b, i, n)
				if i == 0 && v != a || i == n && v != b {
					t.Errorf("Lerp(%v, %v, %d, %d) = %v is not that end", a, b, i, n, v)
				}
				if impl.MinVec(v, impl.MinVec(a, b)) != impl.MinVec(a, b) || impl.MaxVec(v, impl.MaxVec(a, b)) != impl.MaxVec(a, b) {
					t.Errorf("Lerp(%v, %v, %d, %d) = %v is not between the ends", a, b, i, n, v)
				}
				if impl.Lerp(b, a, n-i, n) != v {
					t.Errorf("Lerp(%v, %v, %d, %d) differs in the other direction", a, b, i, n)
				}
				if impl.Lerp(a, a, i, n) != a {
					t.Errorf("Lerp(%v, %v, %d, %d) is not that point", a, a, i, n)
				}
				if n <= 2048 && impl.Lerp(a, b, 2*i, 2*n) != v {
					t.Errorf("Lerp(%v, %v, %d, %d) differs for the doubled fraction", a, b, i, n)
				}
			}
		}
	}
}

func TestP2ScalingSatisfiesTheLaws(t *testing.T) {
	for _, v := range validVecs() {
		negative := impl.SubVec(impl.Vec{}, v)
		for _, n := range []int{1, 2, 3, 7, 256, 4095, 4096} {
			if impl.Scale(v, n, n) != v || impl.Scale(v, 0, n) != (impl.Vec{}) || impl.Scale(v, -n, n) != negative {
				t.Errorf("Scale(%v) by %d/%d, 0 or its negative is wrong", v, n, n)
			}
			for _, i := range []int{0, 1, 2, 5, 100, 4096} {
				if impl.Scale(v, -i, n) != impl.Scale(negative, i, n) {
					t.Errorf("Scale(%v, %d, %d) is not that of the negative", v, -i, n)
				}
				if i <= n && impl.Scale(v, i, n) != impl.Lerp(impl.Vec{}, v, i, n) {
					t.Errorf("Scale(%v, %d, %d) is not the interpolation from zero", v, i, n)
				}
			}
		}
	}
	for _, v := range smallVecs() {
		if impl.Scale(v, 3, 1) != impl.Add(v, impl.Add(v, v)) || impl.Scale(impl.Scale(v, 5, 1), 1, 5) != v {
			t.Errorf("Scale of %v by 3 or by 5 and a fifth is wrong", v)
		}
	}
}

func TestP2MinimumAndMaximumSatisfyTheLaws(t *testing.T) {
	for _, a := range validVecs() {
		if impl.MinVec(a, a) != a || impl.MaxVec(a, a) != a {
			t.Errorf("the minimum or maximum of %v with itself differs", a)
		}
		for _, b := range validVecs() {
			lo, hi := impl.MinVec(a, b), impl.MaxVec(a, b)
			if lo != impl.MinVec(b, a) || hi != impl.MaxVec(b, a) {
				t.Errorf("the minimum or maximum of %v and %v depends on the order", a, b)
			}
			if impl.MinVec(a, hi) != a || impl.MaxVec(a, lo) != a {
				t.Errorf("%v is not absorbed by its minimum and maximum with %v", a, b)
			}
			if impl.Lerp(lo, hi, 1, 2) != impl.Lerp(a, b, 1, 2) {
				t.Errorf("the middle of %v and %v is not that of their minimum and maximum", a, b)
			}
			for _, c := range smallVecs() {
				if impl.MinVec(lo, c) != impl.MinVec(a, impl.MinVec(b, c)) || impl.MaxVec(hi, c) != impl.MaxVec(a, impl.MaxVec(b, c)) {
					t.Errorf("the minimum or maximum of %v, %v and %v depends on the grouping", a, b, c)
				}
			}
		}
	}
}

// Rounding down moves each component of a cross product by less than 1.
func TestP2CrossProductsSatisfyTheLaws(t *testing.T) {
	for _, a := range smallVecs() {
		for _, b := range smallVecs() {
			c := impl.Cross(a, b)
			for k, sum := range parts(impl.Add(c, impl.Cross(b, a))) {
				if sum != 0 && sum != -1 {
					t.Errorf("Cross(%v, %v) is not the negative of the reverse in component %d", a, b, k)
				}
			}
			for _, v := range []impl.Vec{a, b} {
				slack := 0
				for _, n := range parts(v) {
					slack += max(n, -n)
				}
				if d := impl.Dot(c, v); d < -slack || d > slack {
					t.Errorf("Cross(%v, %v) = %v is not orthogonal to %v: %d", a, b, c, v, d)
				}
			}
		}
	}
	x, y, z := vec(256, 0, 0), vec(0, 256, 0), vec(0, 0, 256)
	if impl.Cross(x, y) != z || impl.Cross(y, z) != x || impl.Cross(z, x) != y {
		t.Errorf("the axes are not right-handed")
	}
	for _, a := range validVecs() {
		if impl.Cross(a, a) != (impl.Vec{}) || impl.Cross(a, impl.SubVec(impl.Vec{}, a)) != (impl.Vec{}) {
			t.Errorf("%v is not parallel to itself", a)
		}
	}
}

func TestP2VectorsAreRecovered(t *testing.T) {
	for _, v := range validVecs() {
		if got, ok := impl.ParseVec(impl.FormatVec(v)); got != v || !ok {
			t.Errorf("ParseVec(FormatVec(%v)) = %v, %v", v, got, ok)
		}
	}
	for _, s := range wordsOver([]string{"-", "0", "1", "1000000", ","}, 6) {
		v, ok := impl.ParseVec(s)
		if ok && impl.FormatVec(v) != s || !ok && v != (impl.Vec{}) {
			t.Errorf("ParseVec(%q) = %v, %v", s, v, ok)
		}
	}
}

// quotient divides numerator by denominator, rounded down, without a limit, and then clamps to the range of coordinates.
func quotient(numerator *big.Int, denominator int) int {
	// With a positive denominator, the Euclidean division is the one rounded down.
	q := new(big.Int).Div(numerator, big.NewInt(int64(denominator)))
	limit := big.NewInt(1000000)
	if q.CmpAbs(limit) > 0 {
		return 1000000 * q.Sign()
	}
	return int(q.Int64())
}

func product(a, b int) *big.Int {
	return new(big.Int).Mul(big.NewInt(int64(a)), big.NewInt(int64(b)))
}

func TestP15IsValidVec(t *testing.T) {
	for _, n := range coordinates() {
		want := n >= -1000000 && n <= 1000000
		for _, v := range []impl.Vec{vec(n, 0, 0), vec(0, n, 0), vec(0, 0, n), vec(n, n, n)} {
			if got := impl.IsValidVec(v); got != want {
				t.Errorf("IsValidVec(%v) = %v", v, got)
			}
		}
	}
}

func TestP15AddAndSubVec(t *testing.T) {
	for _, a := range anyVecs() {
		for _, b := range anyVecs() {
			x, y := parts(clampedVec(a)), parts(clampedVec(b))
			sum := clampedVec(vecOf(func(k int) int { return x[k] + y[k] }))
			if got := impl.Add(a, b); got != sum {
				t.Errorf("Add(%v, %v) = %v, not %v", a, b, got, sum)
			}
			difference := clampedVec(vecOf(func(k int) int { return x[k] - y[k] }))
			if got := impl.SubVec(a, b); got != difference {
				t.Errorf("SubVec(%v, %v) = %v, not %v", a, b, got, difference)
			}
		}
	}
	cases := []struct{ a, b, sum, difference impl.Vec }{
		{vec(1, 2, 3), vec(10, -20, 30), vec(11, -18, 33), vec(-9, 22, -27)},
		{vec(600000, -600000, 0), vec(400000, -400000, 0), vec(1000000, -1000000, 0), vec(200000, -200000, 0)},
		{vec(600000, -600000, 1), vec(400001, -400001, 2), vec(1000000, -1000000, 3), vec(199999, -199999, -1)},
		{vec(600000, -600000, 1000000), vec(-400001, 400001, -1000000), vec(199999, -199999, 0), vec(1000000, -1000000, 1000000)},
		{vec(3000000, -3000000, 0), vec(-5, 5, 0), vec(999995, -999995, 0), vec(1000000, -1000000, 0)},
		{vec(math.MaxInt, math.MinInt, math.MinInt), vec(math.MaxInt, math.MinInt, math.MaxInt), vec(1000000, -1000000, 0), vec(0, 0, -1000000)},
	}
	for _, c := range cases {
		if got := impl.Add(c.a, c.b); got != c.sum {
			t.Errorf("Add(%v, %v) = %v, not %v", c.a, c.b, got, c.sum)
		}
		if got := impl.SubVec(c.a, c.b); got != c.difference {
			t.Errorf("SubVec(%v, %v) = %v, not %v", c.a, c.b, got, c.difference)
		}
	}
}

func TestP15Dot(t *testing.T) {
	for _, a := range anyVecs() {
		for _, b := range anyVecs() {
			x, y := parts(clampedVec(a)), parts(clampedVec(b))
			want := 0
			for k := range x {
				want += x[k] * y[k]
			}
			if got := impl.Dot(a, b); got != want {
				t.Errorf("Dot(%v, %v) = %d, not %d", a, b, got, want)
			}
		}
	}
	cases := []struct {
		a, b impl.Vec
		want int
	}{
		{vec(1, 2, 3), vec(4, 5, 6), 32}, {vec(1, -2, 3), vec(-4, 5, 6), 4}, {impl.Vec{}, vec(9, 9, 9), 0},
		{vec(1000000, 1000000, 1000000), vec(1000000, 1000000, 1000000), 3000000000000},
		{vec(math.MaxInt, math.MinInt, 1000001), vec(math.MinInt, math.MaxInt, -1000001), -3000000000000},
	}
	for _, c := range cases {
		if got := impl.Dot(c.a, c.b); got != c.want {
			t.Errorf("Dot(%v, %v) = %d, not %d", c.a, c.b, got, c.want)
		}
	}
}

func wantLerp(a, b impl.Vec, i, n int) impl.Vec {
	if n < 1 || n > 4096 || i < 0 || i > n {
		return clampedVec(a)
	}
	x, y := parts(clampedVec(a)), parts(clampedVec(b))
	return vecOf(func(k int) int {
		sum := product(n-i, x[k])
		return quotient(sum.Add(sum, product(i, y[k])), n)
	})
}

// fractionEnds lists the numbers at which a fraction stops being accepted.
func fractionEnds() []int {
	return []int{math.MinInt, -4097, -4096, -1, 0, 1, 2, 3, 1000, 4095, 4096, 4097, 4098, math.MaxInt}
}

func TestP15Lerp(t *testing.T) {
	vectors := append(smallVecs(), anyVecs()[60:120]...)
	for _, a := range vectors {
		for _, b := range vectors {
			for _, n := range fractionEnds() {
				for _, i := range fractionEnds() {
					if got := impl.Lerp(a, b, i, n); got != wantLerp(a, b, i, n) {
						t.Errorf("Lerp(%v, %v, %d, %d) = %v, not %v", a, b, i, n, got, wantLerp(a, b, i, n))
					}
				}
			}
		}
	}
}

func TestP15LerpCases(t *testing.T) {
	a, b := vec(1, -1, 1000000), vec(8, -8, -1000000)
	beyond, behind := vec(2000000, -2000000, math.MinInt), vec(-2000000, math.MaxInt, 0)
	cases := []struct {
		a, b impl.Vec
		i, n int
		want impl.Vec
	}{
		{impl.Vec{}, vec(3, -3, 8), 1, 2, vec(1, -2, 4)},
		{a, b, 0, 3, a}, {a, b, 3, 3, b}, {a, b, 1, 3, vec(3, -4, 333333)}, {a, b, 2, 3, vec(5, -6, -333334)},
		{a, b, 0, 1, a}, {a, b, 1, 1, b}, {a, b, 4096, 4096, b}, {a, b, 4095, 4096, vec(7, -8, -999512)}, {a, b, 1, 4096, vec(1, -2, 999511)},
		{a, b, 0, 0, a}, {a, b, 1, 0, a}, {a, b, 0, -1, a}, {a, b, -1, -1, a}, {a, b, 1, 4097, a}, {a, b, 4097, 4097, a},
		{a, b, -1, 3, a}, {a, b, 4, 3, a}, {a, b, 2, 1, a}, {a, b, 4097, 4096, a}, {a, b, -1, 4096, a},
		{a, b, math.MaxInt, math.MaxInt, a}, {a, b, math.MinInt, math.MinInt, a}, {a, b, math.MinInt, 4096, a}, {a, b, math.MaxInt, 1, a},
		{beyond, behind, 1, 2, vec(0, 0, -500000)}, {beyond, behind, 0, 2, vec(1000000, -1000000, -1000000)},
		{beyond, behind, 2, 2, vec(-1000000, 1000000, 0)}, {beyond, behind, 3, 2, vec(1000000, -1000000, -1000000)},
	}
	for _, c := range cases {
		if got := impl.Lerp(c.a, c.b, c.i, c.n); got != c.want {
			t.Errorf("Lerp(%v, %v, %d, %d) = %v, not %v", c.a, c.b, c.i, c.n, got, c.want)
		}
	}
}

func wantScale(v impl.Vec, i, n int) impl.Vec {
	v = clampedVec(v)
	if n < 1 || n > 4096 || i < -4096 || i > 4096 {
		return v
	}
	return vecOf(func(k int) int { return quotient(product(i, parts(v)[k]), n) })
}

func TestP15Scale(t *testing.T) {
	for _, v := range append(smallVecs(), anyVecs()...) {
		for _, n := range fractionEnds() {
			for _, i := range append(fractionEnds(), -4098, -4095, -1000, -3, -2) {
				if got := impl.Scale(v, i, n); got != wantScale(v, i, n) {
					t.Errorf("Scale(%v, %d, %d) = %v, not %v", v, i, n, got, wantScale(v, i, n))
				}
			}
		}
	}
}

func TestP15ScaleCases(t *testing.T) {
	v := vec(1, -2, 4)
	large := vec(1000000, -1000000, 244)
	cases := []struct {
		v    impl.Vec
		i, n int
		want impl.Vec
	}{
		{v, -1, 2, vec(-1, 1, -2)}, {v, 1, 2, vec(0, -1, 2)}, {v, 1, 3, vec(0, -1, 1)}, {v, -1, 3, vec(-1, 0, -2)},
		{v, 0, 5, impl.Vec{}}, {v, 5, 1, vec(5, -10, 20)}, {v, 2, 0, v}, {v, 2, -1, v}, {v, 2, 1, vec(2, -4, 8)},
		{v, 2, 4096, vec(0, -1, 0)}, {v, 2, 4097, v}, {v, 2, math.MaxInt, v}, {v, 2, math.MinInt, v},
		{v, 4096, 1, vec(4096, -8192, 16384)}, {v, 4097, 1, v}, {v, -4096, 1, vec(-4096, 8192, -16384)}, {v, -4097, 1, v},
		{v, 4096, 4096, v}, {v, -4096, 4096, vec(-1, 2, -4)}, {v, math.MaxInt, 1, v}, {v, math.MinInt, 1, v},
		{large, 4096, 1, vec(1000000, -1000000, 999424)}, {large, -4096, 1, vec(-1000000, 1000000, -999424)},
		{large, 4096, 4095, vec(1000000, -1000000, 244)}, {large, 3, 2, vec(1000000, -1000000, 366)},
		{vec(2000000, math.MinInt, math.MaxInt), 1, 2, vec(500000, -500000, 500000)},
		{vec(2000000, math.MinInt, math.MaxInt), 1, 0, vec(1000000, -1000000, 1000000)},
		{vec(2000000, math.MinInt, math.MaxInt), 4097, 2, vec(1000000, -1000000, 1000000)},
	}
	for _, c := range cases {
		if got := impl.Scale(c.v, c.i, c.n); got != c.want {
			t.Errorf("Scale(%v, %d, %d) = %v, not %v", c.v, c.i, c.n, got, c.want)
		}
	}
}

func TestP15MinVecAndMaxVec(t *testing.T) {
	for _, a := range anyVecs() {
		for _, b := range anyVecs() {
			x, y := parts(clampedVec(a)), parts(clampedVec(b))
			lo := vecOf(func(k int) int { return min(x[k], y[k]) })
			hi := vecOf(func(k int) int { return max(x[k], y[k]) })
			if impl.MinVec(a, b) != lo || impl.MaxVec(a, b) != hi {
				t.Errorf("MinVec and MaxVec of %v and %v are %v and %v", a, b, impl.MinVec(a, b), impl.MaxVec(a, b))
			}
		}
	}
	a, b := vec(1, 5, math.MinInt), vec(3, -4, math.MaxInt)
	if got := impl.MinVec(a, b); got != vec(1, -4, -1000000) {
		t.Errorf("MinVec(%v, %v) = %v", a, b, got)
	}
	if got := impl.MaxVec(a, b); got != vec(3, 5, 1000000) {
		t.Errorf("MaxVec(%v, %v) = %v", a, b, got)
	}
}

func TestP15Cross(t *testing.T) {
	for _, a := range append(smallVecs(), anyVecs()...) {
		for _, b := range append(smallVecs(), anyVecs()...) {
			x, y := parts(clampedVec(a)), parts(clampedVec(b))
			want := vecOf(func(k int) int {
				i, j := (k+1)%3, (k+2)%3
				difference := product(x[i], y[j])
				return quotient(difference.Sub(difference, product(x[j], y[i])), 256)
			})
			if got := impl.Cross(a, b); got != want {
				t.Errorf("Cross(%v, %v) = %v, not %v", a, b, got, want)
			}
		}
	}
	end := math.MaxInt
	cases := []struct{ a, b, want impl.Vec }{
		{vec(256, 0, 0), vec(0, 256, 0), vec(0, 0, 256)}, {vec(0, 256, 0), vec(256, 0, 0), vec(0, 0, -256)},
		{vec(1, 0, 0), vec(0, 1, 0), impl.Vec{}}, {vec(0, 1, 0), vec(1, 0, 0), vec(0, 0, -1)},
		{vec(1, 0, 0), vec(0, 255, 257), vec(0, -2, 0)}, {vec(0, 0, 1), vec(0, 257, 0), vec(-2, 0, 0)},
		{vec(1000, 2000, 3000), vec(-4000, 5000, 6000), vec(-11719, -70313, 50781)},
		{vec(16000, 16000, 0), vec(-16000, 16000, 0), vec(0, 0, 1000000)}, {vec(15999, 16000, 0), vec(-16000, 15999, 0), vec(0, 0, 1000000)},
		{vec(16000, 0, 0), vec(0, 16000, 0), vec(0, 0, 1000000)}, {vec(16000, 0, 0), vec(0, 15999, 0), vec(0, 0, 999937)},
		{vec(16001, 0, 0), vec(0, 16000, 0), vec(0, 0, 1000000)}, {vec(16001, 0, 0), vec(0, -16000, 0), vec(0, 0, -1000000)},
		{vec(1000000, 0, 1000000), vec(0, 1000000, 0), vec(-1000000, 0, 1000000)},
		{vec(end, -end, 0), vec(end, end, 0), vec(0, 0, 1000000)}, {vec(end, 0, 0), vec(0, 256, 512), vec(0, -1000000, 1000000)},
		{vec(2000000, 0, 0), vec(0, 1, 0), vec(0, 0, 3906)}, {vec(math.MinInt, 0, 0), vec(0, 1, 0), vec(0, 0, -3907)},
	}
	for _, c := range cases {
		if got := impl.Cross(c.a, c.b); got != c.want {
			t.Errorf("Cross(%v, %v) = %v, not %v", c.a, c.b, got, c.want)
		}
	}
}

func TestP15FormatVec(t *testing.T) {
	for _, v := range anyVecs() {
		want := strconv.Itoa(v.X) + "," + strconv.Itoa(v.Y) + "," + strconv.Itoa(v.Z)
		if v != clampedVec(v) {
			want = ""
		}
		if got := impl.FormatVec(v); got != want {
			t.Errorf("FormatVec(%v) = %q, not %q", v, got, want)
		}
	}
	cases := []struct {
		v    impl.Vec
		want string
	}{
		{impl.Vec{}, "0,0,0"}, {vec(1, -2, 4), "1,-2,4"}, {vec(1000000, -1000000, 1000000), "1000000,-1000000,1000000"},
		{vec(1000001, 0, 0), ""}, {vec(0, -1000001, 0), ""}, {vec(0, 0, 1000001), ""}, {vec(0, 0, impl.MaxNum+1), ""}, {vec(math.MinInt, math.MaxInt, 0), ""},
	}
	for _, c := range cases {
		if got := impl.FormatVec(c.v); got != c.want {
			t.Errorf("FormatVec(%v) = %q, not %q", c.v, got, c.want)
		}
	}
}

func TestP15ParseVec(t *testing.T) {
	cases := []struct {
		s    string
		want impl.Vec
	}{
		{"0,0,0", impl.Vec{}}, {"1,-2,4", vec(1, -2, 4)}, {"10,20,-30", vec(10, 20, -30)},
		{"1000000,-1000000,1000000", vec(1000000, -1000000, 1000000)}, {"-1000000,1000000,-1000000", vec(-1000000, 1000000, -1000000)},
	}
	for _, c := range cases {
		if got, ok := impl.ParseVec(c.s); got != c.want || !ok {
			t.Errorf("ParseVec(%q) = %v, %v", c.s, got, ok)
		}
	}
	rejected := []string{
		"", "-", "0", "1", "1,2", "1,2,3,4", "1,2,3,-", "-,1,2", "1,2,-", "-,-,-", "1,2,", ",1,2", ",,", "1,,3", ",1,2,3", "1,2,3,",
		"1000001,0,0", "0,1000001,0", "0,0,1000001", "-1000001,0,0", "0,-1000001,0", "0,0,-1000001", "1000000000,0,0", "0,0,-1000000000", "0,1000000001,0",
		"18446744073709551617,1,1", "1,1,9223372036854775808", "01,2,3", "1,+2,3", "1,2,-0", "1, 2,3", " 1,2,3", "1,2,3 ", "1,2,3\n",
		"1 2 3", "1;2;3", "(1,2,3)", "1.0,2,3", "1,2,x", "a,b,c", "1,2,\xff", "1,2,3\x00", strings.Repeat("1,", 500) + "1",
	}
	for _, s := range rejected {
		if v, ok := impl.ParseVec(s); v != (impl.Vec{}) || ok {
			t.Errorf("ParseVec(%q) = %v, %v", s, v, ok)
		}
	}
}

// A component beyond the range counts as the end of the range that is nearest to it.
func TestP15VectorArgumentsAreClamped(t *testing.T) {
	for _, a := range anyVecs() {
		for _, b := range anyVecs() {
			x, y := clampedVec(a), clampedVec(b)
			same := impl.Add(a, b) == impl.Add(x, y) && impl.SubVec(a, b) == impl.SubVec(x, y) && impl.Dot(a, b) == impl.Dot(x, y) &&
				impl.MinVec(a, b) == impl.MinVec(x, y) && impl.MaxVec(a, b) == impl.MaxVec(x, y) && impl.Cross(a, b) == impl.Cross(x, y) &&
				impl.Lerp(a, b, 1, 3) == impl.Lerp(x, y, 1, 3) && impl.Lerp(a, b, 4, 3) == x && impl.Scale(a, 2, 3) == impl.Scale(x, 2, 3) && impl.Scale(a, 1, 0) == x
			if !same {
				t.Errorf("%v and %v do not count as %v and %v", a, b, x, y)
			}
		}
	}
}
