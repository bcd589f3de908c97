package tests

import (
	"math"
	"math/big"
	"slices"
	"strconv"
	"strings"
	"testing"

	"loop.example/g00809/impl"
)

func transform(matrix [9]int, offset impl.Vec) impl.Transform {
	return impl.Transform{Matrix: matrix, Offset: offset}
}

// withCoefficient replaces the coefficient in place k of x by n.
func withCoefficient(x impl.Transform, k, n int) impl.Transform {
	x.Matrix[k] = n
	return x
}

// coefficients lists numbers inside, at the ends of and beyond the range of a coefficient.
func coefficients() []int {
	return []int{0, 1, -1, 5, -8, 15, 16, -16, 17, -33, 63, 64, -63, -64, 65, -65, 1000, -1000000, 1000001, math.MaxInt, math.MinInt, math.MinInt + 1}
}

// mixedTransform has a given matrix that is neither symmetric nor has two equal coefficients.
func mixedTransform() impl.Transform {
	return transform([9]int{3, -16, 64, 7, 20, -64, -5, 31, 48}, vec(100, -200, 300))
}

// anyTransforms lists transforms inside and beyond the range, in each of the nine places and in each component of Offset.
func anyTransforms() []impl.Transform {
	l := []impl.Transform{{}, mixedTransform()}
	c := coefficients()
	for i, n := range c {
		var even, mixed [9]int
		for k := range 9 {
			even[k] = n
			mixed[k] = c[(i+k*(i+2))%14]
			l = append(l, withCoefficient(mixedTransform(), k, n), withCoefficient(impl.Transform{}, k, n))
		}
		l = append(l, transform(even, impl.Vec{}), transform(even, vec(-7, 8, 1000000)), transform(mixed, vec(0, -1000000, 9)))
	}
	for _, v := range anyVecs() {
		l = append(l, transform(mixedTransform().Matrix, v))
	}
	return l
}

func validTransforms() []impl.Transform {
	return slices.DeleteFunc(anyTransforms(), func(x impl.Transform) bool { return !wantValidTransform(x) })
}

func invalidTransforms() []impl.Transform {
	return slices.DeleteFunc(anyTransforms(), wantValidTransform)
}

func wantValidTransform(x impl.Transform) bool {
	for _, n := range x.Matrix {
		if n < -64 || n > 64 {
			return false
		}
	}
	return x.Offset == clampedVec(x.Offset)
}

// wantApply follows the document one row at a time, in numbers without a limit.
func wantApply(x impl.Transform, v impl.Vec) impl.Vec {
	if !wantValidTransform(x) {
		return v
	}
	p := parts(clampedVec(v))
	sum := vecOf(func(row int) int {
		total := new(big.Int)
		for column, n := range p {
			total.Add(total, product(x.Matrix[3*row+column], n))
		}
		return quotient(total, 16) + parts(x.Offset)[row]
	})
	return clampedVec(sum)
}

func negative(v impl.Vec) impl.Vec {
	return vec(-v.X, -v.Y, -v.Z)
}

func TestP2IdentityChangesNothing(t *testing.T) {
	for _, v := range validVecs() {
		if got := impl.Apply(impl.Identity(), v); got != v {
			t.Errorf("Apply(Identity(), %v) = %v", v, got)
		}
	}
	for _, x := range validTransforms() {
		for _, v := range smallVecs() {
			want := impl.Apply(x, v)
			before := impl.ApplyAll([]impl.Transform{impl.Identity(), x}, v)
			after := impl.ApplyAll([]impl.Transform{x, impl.Identity()}, v)
			if before != want || after != want {
				t.Errorf("the identity before or after %v makes %v of %v, not %v", x, []impl.Vec{before, after}, v, want)
			}
		}
	}
}

func TestP2TranslationsAdd(t *testing.T) {
	for _, a := range validVecs() {
		for _, v := range validVecs() {
			if got := impl.Apply(impl.Translation(a), v); got != impl.Add(v, a) {
				t.Errorf("Apply(Translation(%v), %v) = %v is not the sum", a, v, got)
			}
		}
	}
	for _, a := range smallVecs() {
		for _, b := range smallVecs() {
			for _, v := range smallVecs() {
				back := impl.ApplyAll([]impl.Transform{impl.Translation(a), impl.Translation(negative(a))}, v)
				both := impl.ApplyAll([]impl.Transform{impl.Translation(a), impl.Translation(b)}, v)
				if back != v || both != impl.Apply(impl.Translation(impl.Add(a, b)), v) {
					t.Errorf("the translations by %v and back, or by %v, take %v to %v and %v", a, b, v, back, both)
				}
			}
		}
	}
}

func TestP2QuarterTurnsCompose(t *testing.T) {
	for axis := range 3 {
		for j := -5; j <= 5; j++ {
			for k := -5; k <= 5; k++ {
				for _, v := range validVecs() {
					both := impl.ApplyAll([]impl.Transform{impl.QuarterTurn(axis, j), impl.QuarterTurn(axis, k)}, v)
					if both != impl.Apply(impl.QuarterTurn(axis, j+k), v) {
						t.Errorf("%d and %d quarter turns about axis %d take %v to %v", j, k, axis, v, both)
					}
				}
			}
		}
		one := impl.QuarterTurn(axis, 1)
		for _, v := range validVecs() {
			if got := impl.ApplyAll([]impl.Transform{one, one, one, one}, v); got != v {
				t.Errorf("four quarter turns about axis %d take %v to %v", axis, v, got)
			}
			if got := impl.Apply(one, v); parts(got)[axis] != parts(v)[axis] || impl.Dot(got, got) != impl.Dot(v, v) {
				t.Errorf("a quarter turn about axis %d takes %v to %v", axis, v, got)
			}
		}
	}
}

func TestP2QuarterTurnsKeepProducts(t *testing.T) {
	for axis := range 3 {
		for k := range 4 {
			turn := impl.QuarterTurn(axis, k)
			for _, a := range validVecs() {
				for _, b := range validVecs() {
					if impl.Dot(impl.Apply(turn, a), impl.Apply(turn, b)) != impl.Dot(a, b) {
						t.Errorf("%d quarter turns about axis %d change the dot product of %v and %v", k, axis, a, b)
					}
				}
			}
			for _, a := range smallVecs() {
				for _, b := range smallVecs() {
					// Multiples of 16 make the products multiples of 256, which are divided exactly.
					c, d := impl.Scale(a, 16, 1), impl.Scale(b, 16, 1)
					if impl.Cross(impl.Apply(turn, c), impl.Apply(turn, d)) != impl.Apply(turn, impl.Cross(c, d)) {
						t.Errorf("%d quarter turns about axis %d do not turn the cross product of %v and %v", k, axis, c, d)
					}
				}
			}
		}
	}
}

// A quarter turn about an axis takes the next axis to the one after it.
func TestP2QuarterTurnsPermuteTheAxes(t *testing.T) {
	axes := []impl.Vec{vec(256, 0, 0), vec(0, 256, 0), vec(0, 0, 256)}
	for axis := range axes {
		turn := impl.QuarterTurn(axis, 1)
		next, last := axes[(axis+1)%3], axes[(axis+2)%3]
		if impl.Apply(turn, axes[axis]) != axes[axis] || impl.Apply(turn, next) != last || impl.Apply(turn, last) != negative(next) {
			t.Errorf("a quarter turn about axis %d is not right-handed", axis)
		}
	}
}

func TestP2UniformScalesAreScales(t *testing.T) {
	if impl.UniformScale(16) != impl.Identity() {
		t.Errorf("UniformScale(16) = %v", impl.UniformScale(16))
	}
	for i := -64; i <= 64; i++ {
		for _, v := range validVecs() {
			if got := impl.Apply(impl.UniformScale(i), v); got != impl.Scale(v, i, 16) {
				t.Errorf("Apply(UniformScale(%d), %v) = %v, not %v", i, v, got, impl.Scale(v, i, 16))
			}
		}
	}
	for _, v := range smallVecs() {
		if got := impl.ApplyAll([]impl.Transform{impl.UniformScale(64), impl.UniformScale(4)}, v); got != v {
			t.Errorf("four times and a quarter of %v is %v", v, got)
		}
		if impl.Apply(impl.UniformScale(-16), v) != negative(v) || impl.Apply(impl.UniformScale(0), v) != (impl.Vec{}) {
			t.Errorf("-1 times %v or 0 times it is wrong", v)
		}
	}
}

// Rounding down moves each component of a transformed vector by less than 1, so a sum is off by 0 or 1.
func TestP2TransformsAreLinear(t *testing.T) {
	for _, x := range validTransforms() {
		x.Offset = impl.Vec{}
		for _, a := range smallVecs() {
			for _, b := range smallVecs() {
				sum := impl.Apply(x, impl.Add(a, b))
				for _, n := range parts(impl.SubVec(sum, impl.Add(impl.Apply(x, a), impl.Apply(x, b)))) {
					if n != 0 && n != 1 {
						t.Errorf("%v takes %v and %v to vectors whose sum is off by %d", x, a, b, n)
					}
				}
			}
			if impl.Dot(a, a) > 5000*5000 {
				// Sixteen times such a vector may be taken out of the range, where it is clamped.
				continue
			}
			exact := impl.Apply(x, impl.Scale(a, 16, 1))
			if impl.Scale(exact, 1, 16) != impl.Apply(x, a) || impl.Apply(x, impl.Scale(a, -16, 1)) != negative(exact) {
				t.Errorf("%v is not homogeneous at %v", x, a)
			}
		}
	}
}

func TestP2OffsetsAreAddedLast(t *testing.T) {
	for _, x := range validTransforms() {
		linear := transform(x.Matrix, impl.Vec{})
		for _, v := range validVecs() {
			if impl.Apply(x, v) != impl.Add(impl.Apply(linear, v), x.Offset) {
				t.Errorf("Apply(%v, %v) = %v is not the sum with the offset", x, v, impl.Apply(x, v))
			}
			if impl.Apply(x, v) != impl.ApplyAll([]impl.Transform{linear, impl.Translation(x.Offset)}, v) {
				t.Errorf("Apply(%v, %v) = %v is not followed by the translation", x, v, impl.Apply(x, v))
			}
		}
	}
}

func TestP2ListsOfTransformsAreAppliedInParts(t *testing.T) {
	l := []impl.Transform{
		impl.QuarterTurn(0, 1), impl.Translation(vec(1, -2, 3)), impl.UniformScale(8), mixedTransform(),
		impl.UniformScale(65), impl.QuarterTurn(1, 3), withCoefficient(mixedTransform(), 4, 65), impl.Translation(vec(900000, 0, -900000)),
	}
	for _, v := range anyVecs() {
		for start := range l {
			for middle := start; middle <= len(l); middle++ {
				for end := middle; end <= len(l); end++ {
					if impl.ApplyAll(l[start:end], v) != impl.ApplyAll(l[middle:end], impl.ApplyAll(l[start:middle], v)) {
						t.Fatalf("applying the transforms from %d up to %d to %v depends on the grouping at %d", start, end, v, middle)
					}
				}
			}
		}
	}
}

func TestP2TransformsAreRecovered(t *testing.T) {
	for _, x := range validTransforms() {
		if got, ok := impl.ParseTransform(impl.FormatTransform(x)); got != x || !ok {
			t.Errorf("ParseTransform(FormatTransform(%v)) = %v, %v", x, got, ok)
		}
	}
	for _, s := range wordsOver([]string{"-", "0", "64", ",", "1,2,3,4,5,6,7,8", ";", "0,0,0"}, 6) {
		x, ok := impl.ParseTransform(s)
		if ok && impl.FormatTransform(x) != s || !ok && x != (impl.Transform{}) {
			t.Errorf("ParseTransform(%q) = %v, %v", s, x, ok)
		}
	}
}

func TestP15IsValidTransform(t *testing.T) {
	if impl.MaxCoefficient != 64 {
		t.Errorf("MaxCoefficient is %d", impl.MaxCoefficient)
	}
	for _, x := range anyTransforms() {
		if got := impl.IsValidTransform(x); got != wantValidTransform(x) {
			t.Errorf("IsValidTransform(%v) = %v", x, got)
		}
	}
	for k := range 9 {
		for n := -200; n <= 200; n++ {
			x := withCoefficient(mixedTransform(), k, n)
			if got := impl.IsValidTransform(x); got != (n >= -64 && n <= 64) {
				t.Errorf("IsValidTransform(%v) = %v", x, got)
			}
		}
	}
	for k := range 3 {
		for n, want := range map[int]bool{
			0: true, 1000000: true, -1000000: true, 1000001: false, -1000001: false, 64: true, 65: true, -65: true,
			math.MaxInt: false, math.MinInt: false,
		} {
			x := transform(impl.Identity().Matrix, withComponent(vec(1, 2, 3), k, n))
			if got := impl.IsValidTransform(x); got != want {
				t.Errorf("IsValidTransform(%v) = %v", x, got)
			}
		}
	}
}

func TestP15Identity(t *testing.T) {
	want := transform([9]int{16, 0, 0, 0, 16, 0, 0, 0, 16}, impl.Vec{})
	if got := impl.Identity(); got != want {
		t.Errorf("Identity() = %v", got)
	}
	for _, v := range anyVecs() {
		if got := impl.Apply(impl.Identity(), v); got != clampedVec(v) {
			t.Errorf("Apply(Identity(), %v) = %v", v, got)
		}
	}
	cases := []struct{ v, want impl.Vec }{
		{vec(1000000, -1000000, 999999), vec(1000000, -1000000, 999999)},
		{vec(1000001, -1000001, 5), vec(1000000, -1000000, 5)},
		{vec(math.MaxInt, math.MinInt, -1), vec(1000000, -1000000, -1)},
		{vec(math.MinInt, 0, math.MaxInt), vec(-1000000, 0, 1000000)},
	}
	for _, c := range cases {
		if got := impl.Apply(impl.Identity(), c.v); got != c.want {
			t.Errorf("Apply(Identity(), %v) = %v, not %v", c.v, got, c.want)
		}
	}
}

func TestP15Apply(t *testing.T) {
	vectors := append(smallVecs(), anyVecs()...)
	for _, x := range anyTransforms() {
		for _, v := range vectors {
			if got := impl.Apply(x, v); got != wantApply(x, v) {
				t.Errorf("Apply(%v, %v) = %v, not %v", x, v, got, wantApply(x, v))
			}
		}
	}
}

func TestP15ApplyCases(t *testing.T) {
	rows := transform([9]int{1, 2, 3, 4, 5, 6, 7, 8, 9}, vec(1000, 2000, 3000))
	thirds := transform([9]int{1, 0, 0, 0, -1, 0, 0, 0, 3}, impl.Vec{})
	most := transform([9]int{64, 64, 64, -64, -64, -64, 64, -64, 64}, impl.Vec{})
	small := transform([9]int{1, 1, 1, -1, -1, -1, 1, -1, 1}, vec(1000000, -1000000, 0))
	end := vec(1000000, 1000000, 1000000)
	cases := []struct {
		x       impl.Transform
		v, want impl.Vec
	}{
		{impl.UniformScale(8), vec(5, -5, 2), vec(2, -3, 1)},
		{rows, vec(16, 0, 0), vec(1001, 2004, 3007)}, {rows, vec(0, 16, 0), vec(1002, 2005, 3008)}, {rows, vec(0, 0, 16), vec(1003, 2006, 3009)},
		{rows, vec(160, 1600, -16), vec(1207, 2534, 3861)}, {rows, impl.Vec{}, vec(1000, 2000, 3000)},
		{rows, vec(1, 1, 1), vec(1000, 2000, 3001)}, {rows, vec(-1, -1, -1), vec(999, 1999, 2998)},
		{thirds, vec(15, 1, 5), vec(0, -1, 0)}, {thirds, vec(16, 16, 6), vec(1, -1, 1)}, {thirds, vec(17, 17, -1), vec(1, -2, -1)},
		{thirds, vec(-1, -1, -5), vec(-1, 0, -1)}, {thirds, vec(-16, -15, -6), vec(-1, 0, -2)}, {thirds, vec(-17, -16, -16), vec(-2, 1, -3)},
		{most, end, vec(1000000, -1000000, 1000000)}, {most, negative(end), vec(-1000000, 1000000, -1000000)},
		{most, vec(1000000, -1000000, 0), vec(0, 0, 1000000)}, {most, vec(1000000, 1000000, -1000000), vec(1000000, -1000000, -1000000)},
		{most, vec(math.MaxInt, math.MinInt, 0), vec(0, 0, 1000000)}, {most, vec(50000, 100000, 100000), vec(1000000, -1000000, 200000)},
		{most, vec(50000, 100000, 99999), vec(999996, -999996, 199996)}, {most, vec(50000, 100000, 100001), vec(1000000, -1000000, 200004)},
		{small, end, vec(1000000, -1000000, 62500)}, {small, negative(end), vec(812500, -812500, -62500)},
		{small, vec(math.MinInt, math.MinInt, math.MinInt), vec(812500, -812500, -62500)}, {small, vec(-1, 0, 0), vec(999999, -1000000, -1)},
	}
	for _, c := range cases {
		if got := impl.Apply(c.x, c.v); got != c.want {
			t.Errorf("Apply(%v, %v) = %v, not %v", c.x, c.v, got, c.want)
		}
	}
}

// The rows are limited before the offset is added, not after it.
func TestP15ApplyClampsBothTimes(t *testing.T) {
	four := impl.UniformScale(64)
	four.Offset = vec(-300000, 300000, -1000000)
	cases := []struct{ v, want impl.Vec }{
		{vec(250000, -250000, 250000), vec(700000, -700000, 0)}, {vec(250001, -250001, 300000), vec(700000, -700000, 0)},
		{vec(1000000, -1000000, 1000000), vec(700000, -700000, 0)}, {vec(-1000000, 1000000, -1000000), vec(-1000000, 1000000, -1000000)},
		{vec(-175000, 175000, 0), vec(-1000000, 1000000, -1000000)}, {vec(-174999, 174999, 1), vec(-999996, 999996, -999996)},
		{vec(-175001, 175001, -1), vec(-1000000, 1000000, -1000000)},
	}
	for _, c := range cases {
		if got := impl.Apply(four, c.v); got != c.want {
			t.Errorf("Apply(%v, %v) = %v, not %v", four, c.v, got, c.want)
		}
	}
}

func TestP15ApplyOfWhatIsNotValid(t *testing.T) {
	vectors := append(anyVecs(), vec(math.MaxInt, math.MinInt, 1000001), vec(5, -1000001, 7))
	for _, x := range invalidTransforms() {
		for _, v := range vectors {
			if got := impl.Apply(x, v); got != v {
				t.Errorf("Apply(%v, %v) = %v, not unchanged", x, v, got)
			}
		}
	}
}

func TestP15ApplyAll(t *testing.T) {
	invalid := withCoefficient(impl.Identity(), 0, 65)
	double, turn, move := impl.UniformScale(32), impl.QuarterTurn(2, 1), impl.Translation(vec(10, 20, 30))
	beyond := vec(math.MaxInt, -1000001, 5)
	cases := []struct {
		l       []impl.Transform
		v, want impl.Vec
	}{
		{nil, vec(1, 2, 3), vec(1, 2, 3)}, {[]impl.Transform{}, vec(1, 2, 3), vec(1, 2, 3)}, {nil, beyond, beyond}, {[]impl.Transform{}, beyond, beyond},
		{[]impl.Transform{double}, vec(1, 2, 3), vec(2, 4, 6)},
		{[]impl.Transform{double, move}, vec(1, 2, 3), vec(12, 24, 36)}, {[]impl.Transform{move, double}, vec(1, 2, 3), vec(22, 44, 66)},
		{[]impl.Transform{move, turn}, vec(1, 2, 3), vec(-22, 11, 33)}, {[]impl.Transform{turn, move}, vec(1, 2, 3), vec(8, 21, 33)},
		{[]impl.Transform{move, turn, double}, vec(1, 2, 3), vec(-44, 22, 66)}, {[]impl.Transform{double, turn, move}, vec(1, 2, 3), vec(6, 22, 36)},
		{[]impl.Transform{impl.UniformScale(8), double}, vec(1, -1, 3), vec(0, -2, 2)}, {[]impl.Transform{double, impl.UniformScale(8)}, vec(1, -1, 3), vec(1, -1, 3)},
		{[]impl.Transform{double, impl.UniformScale(8)}, vec(600000, -600000, 3), vec(500000, -500000, 3)},
		{[]impl.Transform{double, invalid, move}, vec(1, 2, 3), vec(12, 24, 36)}, {[]impl.Transform{invalid, double}, beyond, vec(1000000, -1000000, 10)},
		{[]impl.Transform{invalid}, beyond, beyond}, {[]impl.Transform{invalid, invalid}, beyond, beyond}, {[]impl.Transform{impl.Identity()}, beyond, vec(1000000, -1000000, 5)},
	}
	for _, c := range cases {
		if got := impl.ApplyAll(c.l, c.v); got != c.want {
			t.Errorf("ApplyAll(%v, %v) = %v, not %v", c.l, c.v, got, c.want)
		}
	}
}

func TestP15ApplyAllOfManyTransforms(t *testing.T) {
	all := anyTransforms()
	for i, v := range append(smallVecs(), anyVecs()...) {
		for _, n := range []int{1, 2, 3, 20, len(all)} {
			l := slices.Concat(all[i:], all[:i])[:n]
			want := v
			for _, x := range l {
				want = wantApply(x, want)
			}
			if got := impl.ApplyAll(l, v); got != want {
				t.Errorf("ApplyAll of %d transforms from %d and %v = %v, not %v", n, i, v, got, want)
			}
		}
	}
}

func TestP15ApplyAllChangesNothing(t *testing.T) {
	whole := anyTransforms()[:60]
	before := slices.Clone(whole)
	for start := range whole {
		for end := start; end <= len(whole); end++ {
			impl.ApplyAll(whole[start:end], vec(1, 2, 3))
			if !slices.Equal(whole, before) {
				t.Fatalf("ApplyAll of the transforms from %d up to %d changes the slice or what lies behind its length", start, end)
			}
		}
	}
}

// turned is what k quarter turns about axis make of v, one after another as the document describes them.
func turned(axis, k int, v impl.Vec) impl.Vec {
	for range k {
		switch axis {
		case 0:
			v = vec(v.X, -v.Z, v.Y)
		case 1:
			v = vec(v.Z, v.Y, -v.X)
		case 2:
			v = vec(-v.Y, v.X, v.Z)
		}
	}
	return v
}

// turnMatrix has the turned axes as its columns.
func turnMatrix(axis, k int) [9]int {
	var m [9]int
	for column := range 3 {
		for row, n := range parts(turned(axis, k, withComponent(impl.Vec{}, column, 16))) {
			m[3*row+column] = n
		}
	}
	return m
}

func TestP15QuarterTurn(t *testing.T) {
	// The extreme values of int are -2^63, a multiple of 4, and 2^63 - 1.
	turns := map[int]int{
		-5: 3, -4: 0, -3: 1, -2: 2, -1: 3, 0: 0, 1: 1, 2: 2, 3: 3, 4: 0, 5: 1, 1000001: 1, -1000001: 3,
		math.MinInt: 0, math.MinInt + 1: 1, math.MinInt + 2: 2, math.MinInt + 3: 3, math.MaxInt: 3, math.MaxInt - 1: 2, math.MaxInt - 2: 1, math.MaxInt - 3: 0,
	}
	for k, rest := range turns {
		for axis := range 3 {
			turn := impl.QuarterTurn(axis, k)
			if want := transform(turnMatrix(axis, rest), impl.Vec{}); turn != want {
				t.Errorf("QuarterTurn(%d, %d) = %v, not %v", axis, k, turn, want)
			}
			for _, v := range validVecs() {
				if got := impl.Apply(turn, v); got != turned(axis, rest, v) {
					t.Errorf("Apply(QuarterTurn(%d, %d), %v) = %v, not %v", axis, k, v, got, turned(axis, rest, v))
				}
			}
		}
		for _, axis := range []int{-1, 3, 4, -2, -3, 5, 6, 1000, math.MaxInt, math.MinInt, math.MaxInt - 1, math.MinInt + 1} {
			if got := impl.QuarterTurn(axis, k); got != impl.Identity() {
				t.Errorf("QuarterTurn(%d, %d) = %v", axis, k, got)
			}
		}
	}
}

func TestP15QuarterTurnCases(t *testing.T) {
	cases := []struct {
		axis, k int
		matrix  [9]int
		want    impl.Vec
	}{
		{0, 0, [9]int{16, 0, 0, 0, 16, 0, 0, 0, 16}, vec(1, 2, 3)}, {1, 0, [9]int{16, 0, 0, 0, 16, 0, 0, 0, 16}, vec(1, 2, 3)}, {2, 0, [9]int{16, 0, 0, 0, 16, 0, 0, 0, 16}, vec(1, 2, 3)},
		{0, 1, [9]int{16, 0, 0, 0, 0, -16, 0, 16, 0}, vec(1, -3, 2)}, {0, 2, [9]int{16, 0, 0, 0, -16, 0, 0, 0, -16}, vec(1, -2, -3)}, {0, 3, [9]int{16, 0, 0, 0, 0, 16, 0, -16, 0}, vec(1, 3, -2)},
		{1, 1, [9]int{0, 0, 16, 0, 16, 0, -16, 0, 0}, vec(3, 2, -1)}, {1, 2, [9]int{-16, 0, 0, 0, 16, 0, 0, 0, -16}, vec(-1, 2, -3)}, {1, 3, [9]int{0, 0, -16, 0, 16, 0, 16, 0, 0}, vec(-3, 2, 1)},
		{2, 1, [9]int{0, -16, 0, 16, 0, 0, 0, 0, 16}, vec(-2, 1, 3)}, {2, 2, [9]int{-16, 0, 0, 0, -16, 0, 0, 0, 16}, vec(-1, -2, 3)}, {2, 3, [9]int{0, 16, 0, -16, 0, 0, 0, 0, 16}, vec(2, -1, 3)},
		{0, -1, [9]int{16, 0, 0, 0, 0, 16, 0, -16, 0}, vec(1, 3, -2)}, {1, -1, [9]int{0, 0, -16, 0, 16, 0, 16, 0, 0}, vec(-3, 2, 1)}, {2, 5, [9]int{0, -16, 0, 16, 0, 0, 0, 0, 16}, vec(-2, 1, 3)},
		{-1, 1, [9]int{16, 0, 0, 0, 16, 0, 0, 0, 16}, vec(1, 2, 3)}, {3, 1, [9]int{16, 0, 0, 0, 16, 0, 0, 0, 16}, vec(1, 2, 3)},
	}
	for _, c := range cases {
		turn := impl.QuarterTurn(c.axis, c.k)
		if turn != transform(c.matrix, impl.Vec{}) || impl.Apply(turn, vec(1, 2, 3)) != c.want {
			t.Errorf("QuarterTurn(%d, %d) = %v", c.axis, c.k, turn)
		}
	}
}

func TestP15UniformScale(t *testing.T) {
	for i := -200; i <= 200; i++ {
		n := i
		if i < -64 || i > 64 {
			n = 16
		}
		if got, want := impl.UniformScale(i), transform([9]int{n, 0, 0, 0, n, 0, 0, 0, n}, impl.Vec{}); got != want {
			t.Errorf("UniformScale(%d) = %v", i, got)
		}
	}
	cases := []struct{ i, coefficient int }{
		{-64, -64}, {0, 0}, {16, 16}, {64, 64}, {-65, 16}, {65, 16}, {math.MinInt, 16}, {math.MaxInt, 16}, {math.MinInt + 16, 16}, {-16, -16}, {8, 8}, {1 << 32, 16}, {1<<32 + 5, 16},
	}
	for _, c := range cases {
		want := transform([9]int{c.coefficient, 0, 0, 0, c.coefficient, 0, 0, 0, c.coefficient}, impl.Vec{})
		if got := impl.UniformScale(c.i); got != want {
			t.Errorf("UniformScale(%d) = %v", c.i, got)
		}
	}
}

func TestP15Translation(t *testing.T) {
	for _, v := range append(smallVecs(), anyVecs()...) {
		want := impl.Identity()
		if v == clampedVec(v) {
			want.Offset = v
		}
		if got := impl.Translation(v); got != want {
			t.Errorf("Translation(%v) = %v", v, got)
		}
	}
	for _, v := range []impl.Vec{{}, vec(1, -2, 3), vec(1000000, 1000000, 1000000), vec(-1000000, -1000000, -1000000), vec(-1000000, 0, 1000000)} {
		if got := impl.Translation(v); got != transform([9]int{16, 0, 0, 0, 16, 0, 0, 0, 16}, v) {
			t.Errorf("Translation(%v) = %v", v, got)
		}
	}
	for k := range 3 {
		for _, n := range []int{1000001, -1000001, math.MaxInt, math.MinInt} {
			if got := impl.Translation(withComponent(vec(1, 2, 3), k, n)); got != impl.Identity() {
				t.Errorf("Translation with component %d at %d = %v", k, n, got)
			}
		}
	}
}

func wantTransformText(x impl.Transform) string {
	if !wantValidTransform(x) {
		return ""
	}
	var words []string
	for _, n := range x.Matrix {
		words = append(words, strconv.Itoa(n))
	}
	v := x.Offset
	return strings.Join(words, ",") + ";" + strconv.Itoa(v.X) + "," + strconv.Itoa(v.Y) + "," + strconv.Itoa(v.Z)
}

func TestP15FormatTransform(t *testing.T) {
	for _, x := range anyTransforms() {
		if got := impl.FormatTransform(x); got != wantTransformText(x) {
			t.Errorf("FormatTransform(%v) = %q, not %q", x, got, wantTransformText(x))
		}
	}
	ends := transform([9]int{64, -64, 64, -64, 64, -64, 64, -64, 64}, vec(1000000, -1000000, 1000000))
	cases := []struct {
		x    impl.Transform
		want string
	}{
		{impl.Transform{}, "0,0,0,0,0,0,0,0,0;0,0,0"}, {impl.Identity(), "16,0,0,0,16,0,0,0,16;0,0,0"},
		{mixedTransform(), "3,-16,64,7,20,-64,-5,31,48;100,-200,300"}, {ends, "64,-64,64,-64,64,-64,64,-64,64;1000000,-1000000,1000000"},
		{withCoefficient(ends, 0, 65), ""}, {withCoefficient(ends, 8, -65), ""}, {withCoefficient(ends, 4, math.MinInt), ""}, {withCoefficient(ends, 4, impl.MaxNum+1), ""},
		{transform(ends.Matrix, vec(1000001, 0, 0)), ""}, {transform(ends.Matrix, vec(0, 0, -1000001)), ""}, {transform(ends.Matrix, vec(0, math.MaxInt, 0)), ""},
	}
	for _, c := range cases {
		if got := impl.FormatTransform(c.x); got != c.want {
			t.Errorf("FormatTransform(%v) = %q, not %q", c.x, got, c.want)
		}
	}
}

func TestP15ParseTransform(t *testing.T) {
	cases := []struct {
		s    string
		want impl.Transform
	}{
		{"0,0,0,0,0,0,0,0,0;0,0,0", impl.Transform{}}, {"16,0,0,0,16,0,0,0,16;0,0,0", impl.Identity()},
		{"1,2,3,4,5,6,7,8,9;10,11,12", transform([9]int{1, 2, 3, 4, 5, 6, 7, 8, 9}, vec(10, 11, 12))},
		{"64,-64,64,-64,64,-64,64,-64,64;1000000,-1000000,1000000", transform([9]int{64, -64, 64, -64, 64, -64, 64, -64, 64}, vec(1000000, -1000000, 1000000))},
		{"-64,64,-64,64,-64,64,-64,64,-64;-1000000,1000000,-1000000", transform([9]int{-64, 64, -64, 64, -64, 64, -64, 64, -64}, vec(-1000000, 1000000, -1000000))},
	}
	for _, c := range cases {
		if got, ok := impl.ParseTransform(c.s); got != c.want || !ok {
			t.Errorf("ParseTransform(%q) = %v, %v", c.s, got, ok)
		}
	}
}

func TestP15ParseTransformRejects(t *testing.T) {
	rejected := []string{
		"", "-", ";", "-;-", "-;0,0,0", ";0,0,0", "0,0,0", "16,0,0,0,16,0,0,0,16;", "16,0,0,0,16,0,0,0,16;-", "16,0,0,0,16,0,0,0,16",
		"16,0,0,0,16,0,0,0;0,0,0", "16,0,0,0,16,0,0,0,16,0;0,0,0", "16;0,0,0", "16,0,0,0,16,0,0,0,16;0,0", "16,0,0,0,16,0,0,0,16;0,0,0,0", "16,0,0,0,16,0,0,0,16;0",
		"16,0,0,0,16,0,0,0,16;0,0,0;", ";16,0,0,0,16,0,0,0,16;0,0,0", "16,0,0,0,16,0,0,0,16;;0,0,0", "16,0,0,0,16,0,0,0,16;0;0,0,0", "16,0,0,0,16,0,0,0,16;0,0,0;0,0,0",
		"16,0,0;0,16,0;0,0,16;0,0,0", "16,0,0,0,16,0,0,0,16,0,0,0", "16,0,0,0,16,0,0,0,16 0,0,0", "16,0,0,0,16,0,0,0,16:0,0,0", "16;0;0;0;16;0;0;0;16;0;0;0",
		"0,0,0;16,0,0,0,16,0,0,0,16", "16,0,0,0,16,0,0,0,16,;0,0,0", ",16,0,0,0,16,0,0,0,16;0,0,0", "16,0,0,0,16,0,0,0,16;,0,0,0", "16,0,0,0,16,0,0,0,16;0,0,0,", "16,0,0,0,16,0,0,0,16;0,0,0\n",
		" 16,0,0,0,16,0,0,0,16;0,0,0", "16,0,0,0,16,0,0,0,16;0,0,0 ", "16,0,0,0,16,0,0,0,16; 0,0,0", "16,0,0,0,16,0,0,0,16 ;0,0,0", "16, 0,0,0,16,0,0,0,16;0,0,0", "16,0,0,0,16,0,0,0,16;0,0, 0",
		"x;y", "16,0,0,0,x,0,0,0,16;0,0,0", "16,0,0,0,16,0,0,0,16;0,0,\xff", "16,0,0,0,16,0,0,0,16\x00;0,0,0", strings.Repeat("1,", 500) + "1;0,0,0", strings.Repeat(";", 500),
	}
	for _, s := range rejected {
		wantNoTransform(t, s)
	}
	// Each of the nine coefficients and of the three components in turn is replaced by one that cannot stand there.
	common := []string{"", "-", "+1", "-0", "00", "01", "-01", "1.0", "x", " 1", "1 ", "1000000001", "9223372036854775808", "18446744073709551617"}
	for place := range 12 {
		bad := append([]string{"1000001", "-1000001"}, common...)
		if place < 9 {
			bad = append([]string{"65", "-65", "1000000000", "-1000000000"}, common...)
		}
		for _, word := range bad {
			wantNoTransform(t, transformTextWith(place, word))
		}
		if _, ok := impl.ParseTransform(transformTextWith(place, "-64")); !ok {
			t.Errorf("-64 in place %d is rejected", place)
		}
	}
}

// transformTextWith writes a transform with the given word in one of its twelve places.
func transformTextWith(place int, word string) string {
	words := strings.Split("1,2,3,4,5,6,7,8,9,10,11,12", ",")
	words[place] = word
	return strings.Join(words[:9], ",") + ";" + strings.Join(words[9:], ",")
}

func wantNoTransform(t *testing.T, s string) {
	t.Helper()
	if x, ok := impl.ParseTransform(s); x != (impl.Transform{}) || ok {
		t.Errorf("ParseTransform(%q) = %v, %v", s, x, ok)
	}
}
