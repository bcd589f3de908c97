package tests

import (
	"fmt"
	"math"
	"slices"
	"strings"
	"testing"

	"loop.example/g00809/impl"
)

func box(lo, hi impl.Vec) impl.Box {
	return impl.Box{Lo: lo, Hi: hi}
}

// cube is the box that has the same range in every component.
func cube(lo, hi int) impl.Box {
	return box(vec(lo, lo, lo), vec(hi, hi, hi))
}

// withComponent replaces component k of v by n.
func withComponent(v impl.Vec, k, n int) impl.Vec {
	p := parts(v)
	p[k] = n
	return vec(p[0], p[1], p[2])
}

// withRange replaces the range of b in component k.
func withRange(b impl.Box, k, lo, hi int) impl.Box {
	return box(withComponent(b.Lo, k, lo), withComponent(b.Hi, k, hi))
}

// wantValidBox, wantContains and wantOverlap follow the document one component at a time, without the program's own comparisons.
func wantValidBox(b impl.Box) bool {
	for k := range 3 {
		lo, hi := parts(b.Lo)[k], parts(b.Hi)[k]
		if lo < -1000000 || hi > 1000000 || lo > hi {
			return false
		}
	}
	return true
}

func wantContains(b impl.Box, v impl.Vec) bool {
	for k, n := range parts(v) {
		if n < parts(b.Lo)[k] || n > parts(b.Hi)[k] {
			return false
		}
	}
	return true
}

// The greatest of the lower ends is common to the two ranges in each component, if anything is.
func wantOverlap(a, b impl.Box) bool {
	v := vecOf(func(k int) int { return max(parts(a.Lo)[k], parts(b.Lo)[k]) })
	return wantContains(a, v) && wantContains(b, v)
}

// wantUnion clamps first, because the union is that of MinVec and MaxVec.
func wantUnion(a, b impl.Box) impl.Box {
	lo := vecOf(func(k int) int { return min(parts(clampedVec(a.Lo))[k], parts(clampedVec(b.Lo))[k]) })
	hi := vecOf(func(k int) int { return max(parts(clampedVec(a.Hi))[k], parts(clampedVec(b.Hi))[k]) })
	return box(lo, hi)
}

func wantExpand(b impl.Box, k int) impl.Box {
	if k < 0 || k > 1000000 {
		return b
	}
	lo := vecOf(func(i int) int { return parts(clampedVec(b.Lo))[i] - k })
	hi := vecOf(func(i int) int { return parts(clampedVec(b.Hi))[i] + k })
	return box(clampedVec(lo), clampedVec(hi))
}

// anyBoxes lists boxes inside and beyond the range, with their corners in order and not.
func anyBoxes() []impl.Box {
	c := coordinates()
	var l []impl.Box
	for i := range c {
		n, m := c[i], c[(5*i+3)%len(c)]
		l = append(l, cube(n, n), cube(n, m), cube(min(n, m), max(n, m)))
		for k := range 3 {
			l = append(l, withRange(cube(-7, 9), k, n, m), withRange(cube(-7, 9), k, min(n, m), max(n, m)))
		}
	}
	v := anyVecs()
	for i := range v {
		l = append(l, box(v[i], v[(11*i+5)%len(v)]))
	}
	return l
}

func validBoxes() []impl.Box {
	var l []impl.Box
	for _, b := range anyBoxes() {
		if wantValidBox(b) {
			l = append(l, b)
		}
	}
	return l
}

// smallRanges lists the ranges between a few numbers; where the first exceeds the second, the range is empty.
func smallRanges() [][2]int {
	var l [][2]int
	for lo := range 4 {
		for hi := range 4 {
			l = append(l, [2]int{lo, hi})
		}
	}
	return l
}

// smallBoxes lists boxes that touch, overlap, lie in each other and are apart, and boxes that are empty.
func smallBoxes() []impl.Box {
	ranges := [][2]int{{0, 0}, {0, 2}, {1, 2}, {2, 3}, {3, 3}, {2, 1}}
	var l []impl.Box
	for _, x := range ranges {
		for _, y := range ranges {
			for _, z := range ranges {
				l = append(l, box(vec(x[0], y[0], z[0]), vec(x[1], y[1], z[1])))
			}
		}
	}
	return l
}

// pointsAround lists the points whose components are an end of the range of b, one beyond it, or between the ends.
func pointsAround(b impl.Box) []impl.Vec {
	at := func(k int) []int {
		lo, hi := parts(b.Lo)[k], parts(b.Hi)[k]
		return []int{lo - 1, lo, lo + 1, (lo + hi) / 2, hi - 1, hi, hi + 1}
	}
	var l []impl.Vec
	for _, x := range at(0) {
		for _, y := range at(1) {
			for _, z := range at(2) {
				l = append(l, vec(x, y, z))
			}
		}
	}
	return l
}

func pointLists() [][]impl.Vec {
	all := validVecs()
	l := [][]impl.Vec{smallVecs(), all}
	for i := range all {
		l = append(l, all[i:i+1], []impl.Vec{all[i], all[(3*i+1)%len(all)]}, []impl.Vec{all[i], all[(3*i+1)%len(all)], all[(7*i+2)%len(all)]})
	}
	return l
}

func TestP2BoundsAreTheSmallestBox(t *testing.T) {
	for _, l := range pointLists() {
		b, ok := impl.BoundPoints(l)
		if !ok || !impl.IsValidBox(b) {
			t.Fatalf("BoundPoints(%v) = %v, %v", l, b, ok)
		}
		for _, v := range l {
			if !impl.BoxContains(b, v) {
				t.Errorf("the bounds %v do not contain %v", b, v)
			}
		}
		for k := range 3 {
			lo, hi := parts(b.Lo)[k], parts(b.Hi)[k]
			for _, smaller := range []impl.Box{withRange(b, k, lo+1, hi), withRange(b, k, lo, hi-1)} {
				if !slices.ContainsFunc(l, func(v impl.Vec) bool { return !impl.BoxContains(smaller, v) }) {
					t.Errorf("%v contains all points of %v and is smaller than %v", smaller, l, b)
				}
			}
		}
	}
}

func TestP2BoundsDependOnThePointsOnly(t *testing.T) {
	for _, l := range pointLists() {
		b, _ := impl.BoundPoints(l)
		reversed := slices.Clone(l)
		slices.Reverse(reversed)
		for _, same := range [][]impl.Vec{reversed, slices.Concat(l, l), slices.Concat(l, []impl.Vec{b.Lo, b.Hi}), {b.Lo, b.Hi}, {b.Hi, b.Lo}} {
			if got, ok := impl.BoundPoints(same); got != b || !ok {
				t.Errorf("BoundPoints(%v) = %v, %v, not %v", same, got, ok, b)
			}
		}
		for i := 1; i < len(l); i++ {
			first, _ := impl.BoundPoints(l[:i])
			rest, _ := impl.BoundPoints(l[i:])
			if impl.UnionBox(first, rest) != b {
				t.Errorf("the bounds of %v are not the union of those of the first %d points and of the rest", l, i)
			}
		}
	}
}

func TestP2UnionsSatisfyTheLaws(t *testing.T) {
	boxes := validBoxes()
	for i, a := range boxes {
		if impl.UnionBox(a, a) != a {
			t.Errorf("the union of %v with itself is %v", a, impl.UnionBox(a, a))
		}
		for _, b := range boxes {
			u := impl.UnionBox(a, b)
			if u != impl.UnionBox(b, a) || !impl.IsValidBox(u) {
				t.Errorf("UnionBox(%v, %v) = %v is not valid or depends on the order", a, b, u)
			}
			for _, v := range []impl.Vec{a.Lo, a.Hi, b.Lo, b.Hi} {
				if !impl.BoxContains(u, v) {
					t.Errorf("the union of %v and %v does not contain %v", a, b, v)
				}
			}
			if bounds, _ := impl.BoundPoints([]impl.Vec{a.Lo, a.Hi, b.Lo, b.Hi}); bounds != u {
				t.Errorf("the union of %v and %v is not the bounds of their corners", a, b)
			}
			c := boxes[(13*i+7)%len(boxes)]
			if impl.UnionBox(u, c) != impl.UnionBox(a, impl.UnionBox(b, c)) {
				t.Errorf("the union of %v, %v and %v depends on the grouping", a, b, c)
			}
			if impl.BoxContains(c, a.Lo) && impl.BoxContains(c, a.Hi) && impl.UnionBox(a, c) != c {
				t.Errorf("%v lies in %v, but the union is %v", a, c, impl.UnionBox(a, c))
			}
		}
	}
}

func TestP2OverlapIsSymmetricAndHasAWitness(t *testing.T) {
	boxes := append(smallBoxes(), anyBoxes()...)
	for _, a := range boxes {
		if impl.BoxesOverlap(a, a) != impl.BoxContains(a, a.Lo) {
			t.Errorf("BoxesOverlap of %v with itself is %v", a, impl.BoxesOverlap(a, a))
		}
		for _, b := range boxes {
			got := impl.BoxesOverlap(a, b)
			if got != impl.BoxesOverlap(b, a) {
				t.Errorf("BoxesOverlap(%v, %v) depends on the order", a, b)
			}
			v := vecOf(func(k int) int { return max(parts(a.Lo)[k], parts(b.Lo)[k]) })
			if got != (impl.BoxContains(a, v) && impl.BoxContains(b, v)) {
				t.Errorf("BoxesOverlap(%v, %v) = %v, but %v is not a witness for it", a, b, got, v)
			}
		}
		for _, v := range pointsAround(cube(0, 3)) {
			if impl.BoxesOverlap(a, box(v, v)) != impl.BoxContains(a, v) {
				t.Errorf("%v overlaps the point %v, or contains it, but not both", a, v)
			}
		}
	}
}

// gap is the distance of the two ranges in the component in which it is greatest.
func gap(a, b impl.Box) int {
	n := 0
	for k := range 3 {
		n = max(n, parts(a.Lo)[k]-parts(b.Hi)[k], parts(b.Lo)[k]-parts(a.Hi)[k])
	}
	return n
}

func TestP2ExpandedBoxesReachAsFarAsTheyAreExpanded(t *testing.T) {
	for _, a := range validBoxes() {
		for _, b := range validBoxes() {
			for _, k := range []int{0, 1, 7, 1000, 999999, 1000000, gap(a, b) - 1, gap(a, b), gap(a, b) + 1} {
				if k < 0 || k > 1000000 {
					continue
				}
				if got := impl.BoxesOverlap(impl.ExpandBox(a, k), b); got != (gap(a, b) <= k) {
					t.Errorf("%v expanded by %d and %v: overlap is %v", a, k, b, got)
				}
				if got := impl.BoxContains(impl.ExpandBox(a, k), b.Lo); got != (gap(a, box(b.Lo, b.Lo)) <= k) {
					t.Errorf("%v expanded by %d contains %v: %v", a, k, b.Lo, got)
				}
			}
		}
	}
}

func TestP2ExpansionSatisfiesTheLaws(t *testing.T) {
	margins := []int{0, 1, 2, 500, 499999, 500000}
	for _, a := range validBoxes() {
		if impl.ExpandBox(a, 0) != a {
			t.Errorf("ExpandBox(%v, 0) = %v", a, impl.ExpandBox(a, 0))
		}
		for _, k := range margins {
			e := impl.ExpandBox(a, k)
			if !impl.IsValidBox(e) || impl.UnionBox(e, a) != e {
				t.Errorf("ExpandBox(%v, %d) = %v is not valid or does not contain the box", a, k, e)
			}
			for _, j := range margins {
				if impl.ExpandBox(e, j) != impl.ExpandBox(a, k+j) {
					t.Errorf("expanding %v by %d and by %d is not expanding it by the sum", a, k, j)
				}
			}
			for _, b := range validBoxes() {
				if impl.ExpandBox(impl.UnionBox(a, b), k) != impl.UnionBox(e, impl.ExpandBox(b, k)) {
					t.Errorf("the expansion by %d of the union of %v and %v is not the union of the expansions", k, a, b)
				}
			}
		}
	}
}

func TestP15IsValidBox(t *testing.T) {
	for _, b := range append(anyBoxes(), smallBoxes()...) {
		if got := impl.IsValidBox(b); got != wantValidBox(b) {
			t.Errorf("IsValidBox(%v) = %v", b, got)
		}
	}
	cases := []struct {
		lo, hi int
		want   bool
	}{
		{0, 0, true}, {5, 5, true}, {-3, 8, true}, {-1000000, 1000000, true}, {-1000000, -1000000, true}, {1000000, 1000000, true}, {999999, 1000000, true},
		{-1000001, 0, false}, {0, 1000001, false}, {-1000001, 1000001, false}, {-1000001, -1000001, false}, {1000001, 1000001, false},
		{1, 0, false}, {-2, -3, false}, {1000000, -1000000, false}, {1000000, 999999, false}, {1000001, -1000001, false},
		{math.MinInt, math.MaxInt, false}, {math.MaxInt, math.MinInt, false}, {math.MinInt, 0, false}, {0, math.MaxInt, false}, {math.MaxInt, 0, false}, {0, math.MinInt, false},
	}
	for _, c := range cases {
		for _, b := range []impl.Box{cube(c.lo, c.hi), withRange(cube(-9, 9), 0, c.lo, c.hi), withRange(cube(-9, 9), 1, c.lo, c.hi), withRange(cube(-9, 9), 2, c.lo, c.hi)} {
			if got := impl.IsValidBox(b); got != c.want {
				t.Errorf("IsValidBox(%v) = %v", b, got)
			}
		}
	}
	if !impl.IsValidBox(impl.Box{}) {
		t.Errorf("the zero value is not valid")
	}
}

func TestP15BoundPoints(t *testing.T) {
	end, start := math.MaxInt, math.MinInt
	cases := []struct {
		l    []impl.Vec
		want impl.Box
	}{
		{[]impl.Vec{{}}, impl.Box{}},
		{[]impl.Vec{vec(1, -2, 3)}, box(vec(1, -2, 3), vec(1, -2, 3))},
		{[]impl.Vec{vec(1, 2, 3), vec(0, 5, 1)}, box(vec(0, 2, 1), vec(1, 5, 3))},
		{[]impl.Vec{vec(-4, 4, 0), vec(-5, 9, 0), vec(-3, 5, 0)}, box(vec(-5, 4, 0), vec(-3, 9, 0))},
		{[]impl.Vec{vec(7, 7, 7), vec(7, 7, 7)}, cube(7, 7)},
		{[]impl.Vec{vec(1000000, -1000000, 0), vec(-1000000, 1000000, 0)}, box(vec(-1000000, -1000000, 0), vec(1000000, 1000000, 0))},
		{[]impl.Vec{vec(1000001, -1000001, 2)}, box(vec(1000000, -1000000, 2), vec(1000000, -1000000, 2))},
		{[]impl.Vec{vec(end, start, end)}, box(vec(1000000, -1000000, 1000000), vec(1000000, -1000000, 1000000))},
		{[]impl.Vec{vec(end, 5, 5), vec(start, 6, 5)}, box(vec(-1000000, 5, 5), vec(1000000, 6, 5))},
		{[]impl.Vec{vec(5, 5, start), vec(5, end, 1), vec(2000000, 4, 2)}, box(vec(5, 4, -1000000), vec(1000000, 1000000, 2))},
		{[]impl.Vec{vec(3000000, 3000000, 3000000), vec(2000000, 2000000, 2000000)}, cube(1000000, 1000000)},
		{[]impl.Vec{vec(-3000000, start, -1000001), vec(start, -1000001, -2000000)}, cube(-1000000, -1000000)},
	}
	for _, c := range cases {
		if got, ok := impl.BoundPoints(c.l); got != c.want || !ok {
			t.Errorf("BoundPoints(%v) = %v, %v, not %v", c.l, got, ok, c.want)
		}
	}
	for _, l := range [][]impl.Vec{nil, {}, make([]impl.Vec, 0, 5), smallVecs()[3:3]} {
		if got, ok := impl.BoundPoints(l); got != (impl.Box{}) || ok {
			t.Errorf("BoundPoints of no point is %v, %v", got, ok)
		}
	}
}

func TestP15BoundPointsOfManyPoints(t *testing.T) {
	all := anyVecs()
	for i := range all {
		for _, n := range []int{1, 2, 3, 10, 40} {
			l := all[i:min(i+n, len(all))]
			want := box(clampedVec(l[0]), clampedVec(l[0]))
			for _, v := range l {
				want = wantUnion(want, box(v, v))
			}
			if got, ok := impl.BoundPoints(l); got != want || !ok {
				t.Errorf("BoundPoints(%v) = %v, %v, not %v", l, got, ok, want)
			}
		}
	}
}

func TestP15BoundPointsChangesNothing(t *testing.T) {
	whole := anyVecs()
	before := slices.Clone(whole)
	for start := range whole {
		for end := start; end <= len(whole); end++ {
			impl.BoundPoints(whole[start:end])
			if !slices.Equal(whole, before) {
				t.Fatalf("BoundPoints of the points from %d up to %d changes the slice or what lies behind its length", start, end)
			}
		}
	}
}

func TestP15UnionBox(t *testing.T) {
	boxes := append(anyBoxes(), smallBoxes()[:60]...)
	for _, a := range boxes {
		for _, b := range boxes {
			if got := impl.UnionBox(a, b); got != wantUnion(a, b) {
				t.Errorf("UnionBox(%v, %v) = %v, not %v", a, b, got, wantUnion(a, b))
			}
		}
	}
	cases := []struct{ a, b, want impl.Box }{
		{cube(1, 2), cube(5, 6), cube(1, 6)}, {cube(5, 6), cube(1, 2), cube(1, 6)}, {cube(0, 9), cube(3, 4), cube(0, 9)}, {cube(1, 5), cube(3, 8), cube(1, 8)},
		{box(vec(0, 1, 2), vec(3, 4, 5)), box(vec(1, 0, -9), vec(2, 7, 5)), box(vec(0, 0, -9), vec(3, 7, 5))},
		{cube(-1000000, 0), cube(0, 1000000), cube(-1000000, 1000000)}, {cube(-1000001, 0), cube(0, 1000001), cube(-1000000, 1000000)},
		{cube(math.MinInt, math.MaxInt), cube(0, 0), cube(-1000000, 1000000)}, {cube(2000000, 3000000), cube(2000000, 3000000), cube(1000000, 1000000)},
		{cube(math.MinInt, math.MinInt), cube(-5000000, -4000000), cube(-1000000, -1000000)}, {cube(3000000, -3000000), cube(2000000, -2000000), cube(1000000, -1000000)},
		{cube(9, 1), cube(8, 2), cube(8, 2)}, {cube(9, 1), cube(3, 4), cube(3, 4)}, {cube(9, 1), cube(20, 10), cube(9, 10)},
	}
	for _, c := range cases {
		if got := impl.UnionBox(c.a, c.b); got != c.want {
			t.Errorf("UnionBox(%v, %v) = %v, not %v", c.a, c.b, got, c.want)
		}
	}
}

// In each component, all ranges between a few numbers meet, while the other two components overlap.
func TestP15BoxesOverlapInOneComponent(t *testing.T) {
	for _, r := range smallRanges() {
		for _, s := range smallRanges() {
			common := false
			for n := range 4 {
				common = common || r[0] <= n && n <= r[1] && s[0] <= n && n <= s[1]
			}
			for k := range 3 {
				a, b := withRange(cube(0, 3), k, r[0], r[1]), withRange(cube(1, 7), k, s[0], s[1])
				if got := impl.BoxesOverlap(a, b); got != common {
					t.Errorf("BoxesOverlap(%v, %v) = %v", a, b, got)
				}
			}
		}
	}
}

func TestP15BoxesOverlap(t *testing.T) {
	boxes := append(smallBoxes(), anyBoxes()...)
	for _, a := range boxes {
		for _, b := range boxes {
			if got := impl.BoxesOverlap(a, b); got != wantOverlap(a, b) {
				t.Errorf("BoxesOverlap(%v, %v) = %v", a, b, got)
			}
		}
	}
	a := box(vec(0, 0, 0), vec(10, 20, 30))
	cases := []struct {
		b    impl.Box
		want bool
	}{
		{a, true}, {box(vec(3, 3, 3), vec(4, 4, 4)), true}, {box(vec(-5, -5, -5), vec(50, 50, 50)), true}, {box(vec(-5, 7, 7), vec(50, 8, 8)), true},
		{box(vec(10, 20, 30), vec(11, 21, 31)), true}, {box(vec(-1, -1, -1), vec(0, 0, 0)), true}, {box(vec(10, -4, 30), vec(15, 0, 35)), true},
		{box(vec(10, 20, 5), vec(11, 21, 6)), true}, {box(vec(3, -9, -9), vec(4, 0, 0)), true}, {box(vec(-9, 3, 30), vec(0, 4, 39)), true},
		{box(vec(10, 3, 3), vec(19, 9, 9)), true}, {box(vec(3, 20, 3), vec(9, 29, 9)), true}, {box(vec(3, 3, 30), vec(9, 9, 39)), true},
		{box(vec(-9, 3, 3), vec(0, 9, 9)), true}, {box(vec(3, -9, 3), vec(9, 0, 9)), true}, {box(vec(3, 3, -9), vec(9, 9, 0)), true},
		{box(vec(11, 3, 3), vec(19, 9, 9)), false}, {box(vec(3, 21, 3), vec(9, 29, 9)), false}, {box(vec(3, 3, 31), vec(9, 9, 39)), false},
		{box(vec(-9, 3, 3), vec(-1, 9, 9)), false}, {box(vec(3, -9, 3), vec(9, -1, 9)), false}, {box(vec(3, 3, -9), vec(9, 9, -1)), false},
		{box(vec(9, 3, 3), vec(3, 9, 9)), false}, {box(vec(3, 9, 3), vec(9, 3, 9)), false}, {box(vec(3, 3, 4), vec(9, 9, 3)), false},
		{box(vec(20, 3, 3), vec(-20, 9, 9)), false}, {box(vec(3, 40, 3), vec(9, -40, 9)), false}, {box(vec(3, 3, 60), vec(9, 9, -60)), false},
	}
	for _, c := range cases {
		if impl.BoxesOverlap(a, c.b) != c.want || impl.BoxesOverlap(c.b, a) != c.want {
			t.Errorf("BoxesOverlap(%v, %v) is not %v in both orders", a, c.b, c.want)
		}
	}
}

// The chapter compares the components as they are, so what lies beyond the range is not the same as its end.
func TestP15BoxesOverlapBeyondTheRange(t *testing.T) {
	end, start := math.MaxInt, math.MinInt
	cases := []struct {
		a, b [2]int
		want bool
	}{
		{[2]int{2000000, 2000005}, [2]int{2000005, 2000006}, true}, {[2]int{2000000, 2000005}, [2]int{2000006, 2000007}, false},
		{[2]int{0, 1000000}, [2]int{1000001, 2000000}, false}, {[2]int{-1000000, 0}, [2]int{-2000000, -1000001}, false},
		{[2]int{2000005, 2000000}, [2]int{2000000, 2000005}, false}, {[2]int{start, end}, [2]int{5, 5}, true}, {[2]int{end, start}, [2]int{5, 5}, false},
		{[2]int{start, start}, [2]int{end, end}, false}, {[2]int{start, start + 1}, [2]int{start + 1, end}, true}, {[2]int{start, end - 1}, [2]int{end, end}, false},
		{[2]int{end, end}, [2]int{end, end}, true}, {[2]int{start, start}, [2]int{start, end}, true}, {[2]int{end, start}, [2]int{start, end}, false},
	}
	for _, c := range cases {
		pairs := [][2]impl.Box{{cube(c.a[0], c.a[1]), cube(c.b[0], c.b[1])}}
		for k := range 3 {
			pairs = append(pairs, [2]impl.Box{withRange(cube(0, 9), k, c.a[0], c.a[1]), withRange(cube(0, 9), k, c.b[0], c.b[1])})
		}
		for _, p := range pairs {
			if impl.BoxesOverlap(p[0], p[1]) != c.want || impl.BoxesOverlap(p[1], p[0]) != c.want {
				t.Errorf("BoxesOverlap(%v, %v) is not %v in both orders", p[0], p[1], c.want)
			}
		}
	}
}

func TestP15BoxContains(t *testing.T) {
	b := box(vec(-2, 5, 10), vec(3, 5, 14))
	boxes := append(smallBoxes(), b, cube(-1000000, 1000000), cube(999999, 1000001), withRange(b, 0, 3, -2), withRange(b, 1, 6, 5), withRange(b, 2, 14, 10))
	for _, c := range boxes {
		for _, v := range pointsAround(c) {
			if got := impl.BoxContains(c, v); got != wantContains(c, v) {
				t.Errorf("BoxContains(%v, %v) = %v", c, v, got)
			}
		}
	}
	for _, c := range anyBoxes() {
		for _, v := range append(anyVecs(), c.Lo, c.Hi) {
			if got := impl.BoxContains(c, v); got != wantContains(c, v) {
				t.Errorf("BoxContains(%v, %v) = %v", c, v, got)
			}
		}
	}
}

func TestP15BoxContainsCases(t *testing.T) {
	b := box(vec(0, 0, 0), vec(10, 20, 30))
	end, start := math.MaxInt, math.MinInt
	cases := []struct {
		b    impl.Box
		v    impl.Vec
		want bool
	}{
		{b, vec(5, 5, 5), true}, {b, b.Lo, true}, {b, b.Hi, true},
		{b, vec(0, 5, 5), true}, {b, vec(10, 5, 5), true}, {b, vec(5, 0, 5), true}, {b, vec(5, 20, 5), true}, {b, vec(5, 5, 0), true}, {b, vec(5, 5, 30), true},
		{b, vec(-1, 5, 5), false}, {b, vec(11, 5, 5), false}, {b, vec(5, -1, 5), false}, {b, vec(5, 21, 5), false}, {b, vec(5, 5, -1), false}, {b, vec(5, 5, 31), false},
		{b, vec(end, 5, 5), false}, {b, vec(5, start, 5), false}, {b, vec(5, 5, end), false},
		{cube(4, 4), vec(4, 4, 4), true}, {cube(4, 4), vec(4, 4, 5), false}, {cube(4, 3), vec(4, 4, 4), false}, {cube(4, 3), vec(3, 3, 3), false},
		{withRange(b, 0, 10, 0), vec(5, 5, 5), false}, {withRange(b, 1, 20, 0), vec(5, 5, 5), false}, {withRange(b, 2, 30, 0), vec(5, 5, 5), false},
		{withRange(b, 0, 10, 0), vec(10, 5, 5), false}, {withRange(b, 1, 20, 0), vec(5, 0, 5), false}, {withRange(b, 2, 30, 0), vec(5, 5, 30), false},
		{cube(-1000000, 1000000), vec(1000000, -1000000, 0), true}, {cube(-1000000, 1000000), vec(1000001, 0, 0), false}, {cube(-1000000, 1000000), vec(0, 0, -1000001), false},
		{cube(2000000, 2000002), vec(2000001, 2000000, 2000002), true}, {cube(2000000, 2000002), vec(2000001, 1999999, 2000001), false},
		{cube(2000000, 2000002), vec(1000000, 1000000, 1000000), false}, {cube(start, end), vec(start, end, 0), true}, {cube(end, start), vec(0, 0, 0), false},
	}
	for _, c := range cases {
		if got := impl.BoxContains(c.b, c.v); got != c.want {
			t.Errorf("BoxContains(%v, %v) = %v", c.b, c.v, got)
		}
	}
}

func TestP15ExpandBox(t *testing.T) {
	margins := []int{math.MinInt, -1000001, -1000000, -2, -1, 0, 1, 2, 100, 999999, 1000000, 1000001, 2000000, math.MaxInt}
	for _, b := range append(anyBoxes(), smallBoxes()...) {
		for _, k := range margins {
			if got := impl.ExpandBox(b, k); got != wantExpand(b, k) {
				t.Errorf("ExpandBox(%v, %d) = %v, not %v", b, k, got, wantExpand(b, k))
			}
		}
	}
	b := box(vec(1, 2, -3), vec(10, 2, 999999))
	beyond := box(vec(math.MinInt, 2000000, 5), vec(math.MaxInt, -2000000, 1))
	cases := []struct {
		b    impl.Box
		k    int
		want impl.Box
	}{
		{b, -1, b}, {b, 0, b}, {b, 1, box(vec(0, 1, -4), vec(11, 3, 1000000))}, {b, 2, box(vec(-1, 0, -5), vec(12, 4, 1000000))},
		{b, 1000000, box(vec(-999999, -999998, -1000000), vec(1000000, 1000000, 1000000))}, {b, 1000001, b}, {b, math.MaxInt, b}, {b, math.MinInt, b},
		{cube(-1000000, 1000000), 1, cube(-1000000, 1000000)}, {cube(1000000, 1000000), 1000000, cube(0, 1000000)}, {cube(-1000000, -1000000), 1000000, cube(-1000000, 0)},
		{beyond, -1, beyond}, {beyond, 1000001, beyond}, {beyond, math.MinInt, beyond},
		{beyond, 0, box(vec(-1000000, 1000000, 5), vec(1000000, -1000000, 1))}, {beyond, 1, box(vec(-1000000, 999999, 4), vec(1000000, -999999, 2))},
		{cube(8, 2), 1, cube(7, 3)}, {cube(8, 2), 3, cube(5, 5)}, {cube(8, 2), 4, cube(4, 6)}, {cube(8, 2), -3, cube(8, 2)},
	}
	for _, c := range cases {
		if got := impl.ExpandBox(c.b, c.k); got != c.want {
			t.Errorf("ExpandBox(%v, %d) = %v, not %v", c.b, c.k, got, c.want)
		}
	}
}

func TestP15FormatBox(t *testing.T) {
	for _, b := range append(anyBoxes(), smallBoxes()...) {
		want := fmt.Sprintf("%d,%d,%d..%d,%d,%d", b.Lo.X, b.Lo.Y, b.Lo.Z, b.Hi.X, b.Hi.Y, b.Hi.Z)
		if !wantValidBox(b) {
			want = ""
		}
		if got := impl.FormatBox(b); got != want {
			t.Errorf("FormatBox(%v) = %q, not %q", b, got, want)
		}
	}
	cases := []struct {
		b    impl.Box
		want string
	}{
		{impl.Box{}, "0,0,0..0,0,0"}, {box(vec(0, 2, 1), vec(1, 5, 3)), "0,2,1..1,5,3"}, {box(vec(-3, -2, -1), vec(-3, 0, 10)), "-3,-2,-1..-3,0,10"},
		{cube(-1000000, 1000000), "-1000000,-1000000,-1000000..1000000,1000000,1000000"}, {cube(1000000, 1000000), "1000000,1000000,1000000..1000000,1000000,1000000"},
		{cube(-1000001, 0), ""}, {cube(0, 1000001), ""}, {cube(1, 0), ""}, {cube(math.MinInt, math.MaxInt), ""}, {cube(math.MaxInt, math.MinInt), ""},
		{withRange(cube(0, 9), 0, 5, 4), ""}, {withRange(cube(0, 9), 1, 5, 4), ""}, {withRange(cube(0, 9), 2, 5, 4), ""},
		{withRange(cube(0, 9), 0, -1000001, 4), ""}, {withRange(cube(0, 9), 1, 4, 1000001), ""}, {withRange(cube(0, 9), 2, -1000001, 1000001), ""},
	}
	for _, c := range cases {
		if got := impl.FormatBox(c.b); got != c.want {
			t.Errorf("FormatBox(%v) = %q, not %q", c.b, got, c.want)
		}
	}
}

// The text of a box is that of its two corners, from which both are recovered.
func TestP15TextOfBoxHoldsItsCorners(t *testing.T) {
	for _, b := range validBoxes() {
		lo, hi, found := strings.Cut(impl.FormatBox(b), "..")
		first, ok := impl.ParseVec(lo)
		last, alsoOk := impl.ParseVec(hi)
		if !found || !ok || !alsoOk || box(first, last) != b {
			t.Errorf("FormatBox(%v) = %q", b, impl.FormatBox(b))
		}
	}
}
