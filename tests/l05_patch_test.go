package tests

import (
	"fmt"
	"math"
	"math/big"
	"slices"
	"strconv"
	"strings"
	"testing"

	"loop.example/g00809/impl"
)

func patch(a, b, c, d impl.Vec) impl.Patch {
	return impl.Patch{Corners: [4]impl.Vec{a, b, c, d}}
}

func sub(u, v, n int) impl.SubPatch {
	return impl.SubPatch{U: u, V: v, N: n}
}

// withCorner replaces corner k of p by v.
func withCorner(p impl.Patch, k int, v impl.Vec) impl.Patch {
	p.Corners[k] = v
	return p
}

// withCornerComponent replaces one component of corner k of p by n.
func withCornerComponent(p impl.Patch, k, component, n int) impl.Patch {
	return withCorner(p, k, withComponent(p.Corners[k], component, n))
}

// documentPatch is the example of the document.
func documentPatch() impl.Patch {
	return patch(vec(0, 0, 0), vec(4, 0, 0), vec(0, 4, 0), vec(4, 4, 8))
}

// mixedPatch is not flat, and no two of its components are equal.
func mixedPatch() impl.Patch {
	return patch(vec(1, -2, 3), vec(100, 7, -55), vec(-31, 64, 9), vec(77, -128, 1001))
}

// widePatch has its corners at both ends of the range.
func widePatch() impl.Patch {
	e := 1000000
	return patch(vec(-e, e, e), vec(e, -e, e), vec(e, e, -e), vec(-e, -e, -e))
}

// beyondPatch has no component in the range; what counts of it is widePatch.
func beyondPatch() impl.Patch {
	end, start := math.MaxInt, math.MinInt
	return patch(vec(start, end, 1000001), vec(2000000, -1000001, end), vec(end, 1000001, start), vec(-1000001, start, -2000000))
}

// anyPatches lists patches inside and beyond the range, in each corner and component.
func anyPatches() []impl.Patch {
	l := []impl.Patch{{}, documentPatch(), mixedPatch(), widePatch(), beyondPatch()}
	v := anyVecs()
	for i := range v {
		l = append(l, patch(v[i], v[(5*i+3)%len(v)], v[(7*i+11)%len(v)], v[(11*i+2)%len(v)]), patch(v[i], v[i], v[i], v[i]))
	}
	for _, n := range coordinates() {
		for k := range 4 {
			for component := range 3 {
				l = append(l, withCornerComponent(mixedPatch(), k, component, n))
			}
		}
	}
	return l
}

func validPatches() []impl.Patch {
	return slices.DeleteFunc(anyPatches(), func(p impl.Patch) bool { return !wantValidPatch(p) })
}

// fewPatches lists valid patches that are flat and not, small and wide, for what is tested on every grid.
func fewPatches() []impl.Patch {
	v := smallVecs()
	l := []impl.Patch{documentPatch(), mixedPatch(), widePatch(), patch(v[5], v[5], v[5], v[5]), patch(v[7], v[6], v[9], v[8])}
	return append(l, patch(vec(-1, 0, 1), vec(0, 1, -1), vec(1, -1, 0), vec(0, 0, 0)), patch(vec(999999, 1, 0), vec(-1000000, 2, 0), vec(3, 1, 0), vec(1000000, 0, -1)))
}

func wantValidPatch(p impl.Patch) bool {
	return p == clampedPatch(p)
}

func clampedPatch(p impl.Patch) impl.Patch {
	c := p.Corners
	return patch(clampedVec(c[0]), clampedVec(c[1]), clampedVec(c[2]), clampedVec(c[3]))
}

// wantPoint follows the document's formula, in numbers without a limit.
func wantPoint(p impl.Patch, i, j, n int) impl.Vec {
	p = clampedPatch(p)
	if n < 1 || n > 64 || i < 0 || i > n || j < 0 || j > n {
		return p.Corners[0]
	}
	weights := [4]int{(n - i) * (n - j), i * (n - j), (n - i) * j, i * j}
	return vecOf(func(component int) int {
		sum := new(big.Int)
		for k, v := range p.Corners {
			sum.Add(sum, product(weights[k], parts(v)[component]))
		}
		return quotient(sum, n*n)
	})
}

// edgeEnds lists the corners between which the four edges run.
func edgeEnds() [4][2]int {
	return [4][2]int{{0, 1}, {2, 3}, {0, 2}, {1, 3}}
}

// borderPoint returns the column and the row of point i on edge k of an n x n grid.
func borderPoint(k, i, n int) (int, int) {
	switch k {
	case 0:
		return i, 0
	case 1:
		return i, n
	case 2:
		return 0, i
	}
	return n, i
}

// allSubPatches lists the valid SubPatches with this N.
func allSubPatches(n int) []impl.SubPatch {
	var l []impl.SubPatch
	for v := range n {
		for u := range n {
			l = append(l, sub(u, v, n))
		}
	}
	return l
}

func powersOfTwo() []int {
	return []int{1, 2, 4, 8, 16, 32, 64}
}

func invalidSubPatches() []impl.SubPatch {
	end, start := math.MaxInt, math.MinInt
	l := []impl.SubPatch{{}, sub(1, 0, 0), sub(-1, -1, 0), sub(start, 0, 1), sub(0, start, 64), sub(end, 0, 64), sub(0, end, 1), sub(end, end, end), sub(start, start, start)}
	for _, n := range []int{0, -1, -2, -64, 3, 5, 6, 7, 9, 12, 31, 33, 48, 63, 65, 96, 128, 256, 1 << 32, 1 << 62, end, start, start + 1} {
		l = append(l, sub(0, 0, n), sub(-1, 0, n), sub(0, -1, n), sub(n-1, n-1, n))
	}
	for _, n := range powersOfTwo() {
		l = append(l, sub(-1, 0, n), sub(0, -1, n), sub(n, 0, n), sub(0, n, n), sub(n, n, n), sub(-n, 0, n), sub(0, n+1, n), sub(n-1, n, n), sub(n, n-1, n))
	}
	return l
}

func TestP3PointsAreTheSameOnFinerGrids(t *testing.T) {
	for _, p := range fewPatches() {
		for n := 1; n <= 64; n++ {
			for factor := 2; factor*n <= 64; factor++ {
				for i := range n + 1 {
					for j := range n + 1 {
						coarse, fine := impl.EvalPatch(p, i, j, n), impl.EvalPatch(p, factor*i, factor*j, factor*n)
						if coarse != fine {
							t.Fatalf("point %d, %d of %v on a grid of %d is %v, but %v on a grid of %d", i, j, p, n, coarse, fine, factor*n)
						}
					}
				}
			}
		}
	}
	for _, p := range anyPatches() {
		for n := 1; n <= 32; n *= 2 {
			i, j := n/2, n-n/4
			if impl.EvalPatch(p, i, j, n) != impl.EvalPatch(p, 2*i, 2*j, 2*n) {
				t.Errorf("point %d, %d of %v on a grid of %d differs on one that is twice as fine", i, j, p, n)
			}
		}
	}
}

func TestP3EdgesAreTheBorderOfTheGrid(t *testing.T) {
	for _, p := range anyPatches() {
		for _, n := range []int{1, 2, 3, 7, 16, 63, 64} {
			for k := range 4 {
				for i := range n + 1 {
					column, row := borderPoint(k, i, n)
					if edge, point := impl.EvalEdge(p, k, i, n), impl.EvalPatch(p, column, row, n); edge != point {
						t.Fatalf("EvalEdge(%v, %d, %d, %d) = %v, but the grid has %v there", p, k, i, n, edge, point)
					}
				}
			}
		}
	}
}

// joinedPatch runs from a to b along its edge k; its other two corners lie elsewhere.
func joinedPatch(k int, a, b impl.Vec) impl.Patch {
	ends := edgeEnds()[k]
	p := patch(vec(5, -6, 7), vec(-800, 900, 1000000), vec(11, 12, -13), vec(-1000000, 3, 2))
	return withCorner(withCorner(p, ends[0], a), ends[1], b)
}

func TestP3PatchesThatShareAnEdgeHaveNoCracks(t *testing.T) {
	for _, p := range fewPatches() {
		for k, ends := range edgeEnds() {
			a, b := p.Corners[ends[0]], p.Corners[ends[1]]
			for other := range 4 {
				same, reversed := joinedPatch(other, a, b), joinedPatch(other, b, a)
				for n := 1; n <= 64; n++ {
					for i := range n + 1 {
						want := impl.EvalPatch(p, first(borderPoint(k, i, n)), second(borderPoint(k, i, n)), n)
						forth := impl.EvalPatch(same, first(borderPoint(other, i, n)), second(borderPoint(other, i, n)), n)
						back := impl.EvalPatch(reversed, first(borderPoint(other, n-i, n)), second(borderPoint(other, n-i, n)), n)
						if forth != want || back != want || impl.EvalEdge(same, other, i, n) != want || impl.EvalEdge(reversed, other, n-i, n) != want {
							t.Fatalf("edge %d of %v and edge %d of the patch beside it differ at %d of %d", k, p, other, i, n)
						}
					}
				}
			}
		}
	}
}

func first(a, _ int) int { return a }

func second(_, b int) int { return b }

func TestP3PointsLieWithinTheBounds(t *testing.T) {
	for _, p := range anyPatches() {
		b := impl.PatchBounds(p)
		for _, n := range []int{1, 2, 3, 5, 16} {
			for i := range n + 1 {
				for j := range n + 1 {
					if v := impl.EvalPatch(p, i, j, n); !impl.IsValidVec(v) || !impl.BoxContains(b, v) {
						t.Fatalf("point %d, %d of %d is %v, outside the bounds %v of %v", i, j, n, v, b, p)
					}
				}
			}
		}
	}
	for _, p := range fewPatches() {
		for i := range 65 {
			for j := range 65 {
				if v := impl.EvalPatch(p, i, j, 64); !impl.BoxContains(impl.PatchBounds(p), v) {
					t.Fatalf("point %d, %d of 64 is %v, outside the bounds of %v", i, j, v, p)
				}
			}
		}
	}
}

func TestP3CornersAreTheCornersOfEveryGrid(t *testing.T) {
	for _, p := range validPatches() {
		c := p.Corners
		for n := 1; n <= 64; n++ {
			got := [4]impl.Vec{impl.EvalPatch(p, 0, 0, n), impl.EvalPatch(p, n, 0, n), impl.EvalPatch(p, 0, n, n), impl.EvalPatch(p, n, n, n)}
			if got != c {
				t.Fatalf("the corners of the grid of %d of %v are %v", n, p, got)
			}
		}
	}
}

// Exchanging or reversing the parameters renumbers the points of a patch and changes none of them.
func TestP3PointsDoNotDependOnTheDirectionOfTheParameters(t *testing.T) {
	for _, p := range fewPatches() {
		c := p.Corners
		exchanged, reversed := patch(c[0], c[2], c[1], c[3]), patch(c[1], c[0], c[3], c[2])
		for n := 1; n <= 64; n += 3 {
			for i := range n + 1 {
				for j := range n + 1 {
					v := impl.EvalPatch(p, i, j, n)
					if impl.EvalPatch(exchanged, j, i, n) != v || impl.EvalPatch(reversed, n-i, j, n) != v {
						t.Fatalf("point %d, %d of %d of %v depends on the direction of u and v", i, j, n, p)
					}
				}
			}
		}
	}
}

// A translation by whole numbers is not affected by the rounding.
func TestP3TranslatedPatchesHaveTheTranslatedPoints(t *testing.T) {
	for _, p := range []impl.Patch{{}, documentPatch(), mixedPatch()} {
		for _, offset := range smallVecs() {
			l := []impl.Transform{impl.Translation(offset)}
			moved := impl.TransformPatch(l, p)
			for n := 1; n <= 64; n += 7 {
				for i := range n + 1 {
					for j := range n + 1 {
						if impl.EvalPatch(moved, i, j, n) != impl.ApplyAll(l, impl.EvalPatch(p, i, j, n)) {
							t.Fatalf("point %d, %d of %d of %v is not translated by %v", i, j, n, p, offset)
						}
					}
				}
			}
		}
	}
}

func TestP3QuartersFillTheirSubPatch(t *testing.T) {
	level := []impl.SubPatch{sub(0, 0, 1)}
	for _, n := range powersOfTwo() {
		seen := map[impl.SubPatch]int{}
		for _, q := range level {
			seen[q]++
		}
		for _, q := range allSubPatches(n) {
			if seen[q] != 1 || !impl.IsValidSubPatch(q) {
				t.Errorf("%v occurs %d times among the %d parts", q, seen[q], len(level))
			}
		}
		if len(level) != n*n {
			t.Errorf("there are %d parts with N = %d", len(level), n)
		}
		var next []impl.SubPatch
		for _, q := range level {
			next = append(next, impl.SplitSubPatch(q)...)
		}
		level = next
	}
	if len(level) != 0 {
		t.Errorf("parts with N = MaxGrid are split into %v", level)
	}
}

func TestP3PartsHaveThePointsOfThePatch(t *testing.T) {
	for _, p := range fewPatches() {
		for _, parts := range powersOfTwo() {
			n := 64 / parts
			for _, q := range allSubPatches(parts) {
				for _, i := range []int{0, 1, n / 2, n} {
					for _, j := range []int{0, n / 3, n - 1, n} {
						v, ok := impl.EvalSubPatch(p, q, i, j, n)
						if want := impl.EvalPatch(p, q.U*n+i, q.V*n+j, 64); v != want || !ok {
							t.Fatalf("EvalSubPatch(%v, %v, %d, %d, %d) = %v, %v, not %v", p, q, i, j, n, v, ok, want)
						}
					}
				}
			}
		}
	}
}

func TestP3QuartersHaveThePointsOfTheirSubPatch(t *testing.T) {
	for _, p := range fewPatches() {
		for _, whole := range []impl.SubPatch{sub(0, 0, 1), sub(1, 0, 2), sub(2, 3, 4), sub(15, 9, 16)} {
			n := 64 / whole.N / 2
			for k, q := range impl.SplitSubPatch(whole) {
				for i := range n + 1 {
					for j := range n + 1 {
						part, ok := impl.EvalSubPatch(p, q, i, j, n)
						want, alsoOk := impl.EvalSubPatch(p, whole, k%2*n+i, k/2*n+j, 2*n)
						if part != want || !ok || !alsoOk {
							t.Fatalf("point %d, %d of %d of quarter %v is %v, but that of %v is %v", i, j, n, q, part, whole, want)
						}
					}
				}
			}
		}
	}
}

func TestP3QuartersShareTheirEdges(t *testing.T) {
	for _, p := range fewPatches() {
		quarters := impl.SplitSubPatch(sub(0, 0, 1))
		for n := 1; n <= 32; n++ {
			for i := range n + 1 {
				for k := range 2 {
					lower, _ := impl.EvalSubPatch(p, quarters[k], i, n, n)
					upper, ok := impl.EvalSubPatch(p, quarters[k+2], i, 0, n)
					left, _ := impl.EvalSubPatch(p, quarters[2*k], n, i, n)
					right, alsoOk := impl.EvalSubPatch(p, quarters[2*k+1], 0, i, n)
					if lower != upper || left != right || !ok || !alsoOk {
						t.Fatalf("the quarters of %v have a crack at %d of %d", p, i, n)
					}
				}
			}
		}
	}
}

func TestP3PatchesAreRecovered(t *testing.T) {
	for _, p := range validPatches() {
		if got, ok := impl.ParsePatch(impl.FormatPatch(p)); got != p || !ok {
			t.Errorf("ParsePatch(FormatPatch(%v)) = %v, %v", p, got, ok)
		}
	}
	for _, s := range wordsOver([]string{"-", "1", ",", " ", "1,2,3", "0,0,0 0,0,0"}, 6) {
		p, ok := impl.ParsePatch(s)
		if ok && impl.FormatPatch(p) != s || !ok && p != (impl.Patch{}) {
			t.Errorf("ParsePatch(%q) = %v, %v", s, p, ok)
		}
	}
}

func TestP15IsValidPatch(t *testing.T) {
	if impl.MaxGrid != 64 {
		t.Errorf("MaxGrid is %d", impl.MaxGrid)
	}
	for _, p := range anyPatches() {
		if got := impl.IsValidPatch(p); got != wantValidPatch(p) {
			t.Errorf("IsValidPatch(%v) = %v", p, got)
		}
	}
	for _, whole := range []impl.Patch{{}, mixedPatch(), widePatch()} {
		for k := range 4 {
			for component := range 3 {
				for n, want := range map[int]bool{
					0: true, 1000000: true, -1000000: true, 1000001: false, -1000001: false,
					2000000: false, -2000000: false, math.MaxInt: false, math.MinInt: false,
				} {
					p := withCornerComponent(whole, k, component, n)
					if got := impl.IsValidPatch(p); got != want {
						t.Errorf("IsValidPatch(%v) = %v", p, got)
					}
				}
			}
		}
	}
}

// gridNumbers lists the numbers at which an index or a grid stops being accepted.
func gridNumbers() []int {
	return []int{math.MinInt, math.MinInt + 1, -64, -2, -1, 0, 1, 2, 3, 31, 32, 63, 64, 65, 66, 128, 4096, 1 << 32, math.MaxInt - 1, math.MaxInt}
}

func TestP15EvalPatch(t *testing.T) {
	for _, p := range append(fewPatches(), beyondPatch()) {
		for n := 1; n <= 64; n++ {
			for i := range n + 1 {
				for j := 0; j <= n; j += 1 + n/9 {
					if got, want := impl.EvalPatch(p, i, j, n), wantPoint(p, i, j, n); got != want {
						t.Fatalf("EvalPatch(%v, %d, %d, %d) = %v, not %v", p, i, j, n, got, want)
					}
				}
			}
		}
	}
	for _, p := range anyPatches() {
		for _, n := range []int{0, 1, 2, 3, 63, 64, 65} {
			for _, i := range []int{-1, 0, 1, n / 2, n, n + 1} {
				for _, j := range []int{-1, 0, n / 3, n - 1, n, n + 1} {
					if got, want := impl.EvalPatch(p, i, j, n), wantPoint(p, i, j, n); got != want {
						t.Fatalf("EvalPatch(%v, %d, %d, %d) = %v, not %v", p, i, j, n, got, want)
					}
				}
			}
		}
	}
}

func TestP15EvalPatchOutsideItsGrid(t *testing.T) {
	for _, p := range []impl.Patch{documentPatch(), mixedPatch(), widePatch(), beyondPatch()} {
		for _, n := range gridNumbers() {
			for _, i := range gridNumbers() {
				for _, j := range gridNumbers() {
					if got, want := impl.EvalPatch(p, i, j, n), wantPoint(p, i, j, n); got != want {
						t.Fatalf("EvalPatch(%v, %d, %d, %d) = %v, not %v", p, i, j, n, got, want)
					}
				}
			}
		}
	}
}

func TestP15EvalPatchCases(t *testing.T) {
	p, wide := documentPatch(), widePatch()
	c := mixedPatch().Corners
	minus := patch(vec(0, 0, -1), vec(-1, 0, -1), vec(0, -3, -1), vec(0, -1, -2))
	end, start := math.MaxInt, math.MinInt
	cases := []struct {
		p       impl.Patch
		i, j, n int
		want    impl.Vec
	}{
		{p, 1, 1, 2, vec(2, 2, 2)}, {p, 0, 0, 2, vec(0, 0, 0)}, {p, 2, 0, 2, vec(4, 0, 0)}, {p, 0, 2, 2, vec(0, 4, 0)}, {p, 2, 2, 2, vec(4, 4, 8)},
		{p, 1, 0, 2, vec(2, 0, 0)}, {p, 0, 1, 2, vec(0, 2, 0)}, {p, 2, 1, 2, vec(4, 2, 4)}, {p, 1, 2, 2, vec(2, 4, 4)},
		{p, 1, 2, 3, vec(1, 2, 1)}, {p, 2, 2, 3, vec(2, 2, 3)}, {p, 1, 1, 3, vec(1, 1, 0)}, {p, 63, 62, 64, vec(3, 3, 7)}, {p, 48, 32, 64, vec(3, 2, 3)},
		{minus, 1, 1, 2, vec(-1, -1, -2)}, {minus, 1, 0, 2, vec(-1, 0, -1)}, {minus, 1, 1, 64, vec(-1, -1, -2)}, {minus, 0, 1, 3, vec(0, -1, -1)}, {minus, 1, 2, 2, vec(0, -2, -2)},
		{minus, 63, 63, 64, vec(-1, -2, -2)}, {minus, 64, 64, 64, vec(0, -1, -2)},
		{mixedPatch(), 0, 0, 1, c[0]}, {mixedPatch(), 1, 0, 1, c[1]}, {mixedPatch(), 0, 1, 1, c[2]}, {mixedPatch(), 1, 1, 1, c[3]},
		{mixedPatch(), 1, 1, 2, vec(36, -15, 239)}, {mixedPatch(), 1, 3, 4, vec(3, 12, 189)}, {mixedPatch(), 3, 1, 4, vec(68, -17, 157)},
		{wide, 0, 0, 64, vec(-1000000, 1000000, 1000000)}, {wide, 64, 64, 64, vec(-1000000, -1000000, -1000000)}, {wide, 32, 32, 64, vec(0, 0, 0)},
		{wide, 1, 0, 64, vec(-968750, 968750, 1000000)}, {wide, 1, 1, 64, vec(-938477, 968750, 968750)}, {wide, 64, 1, 64, vec(968750, -1000000, 968750)},
		{p, 1, 1, 0, vec(0, 0, 0)}, {mixedPatch(), 0, 0, 0, c[0]}, {mixedPatch(), 1, 1, 65, c[0]}, {mixedPatch(), 65, 65, 65, c[0]}, {mixedPatch(), -1, -1, -1, c[0]},
		{mixedPatch(), -1, 1, 2, c[0]}, {mixedPatch(), 3, 1, 2, c[0]}, {mixedPatch(), 1, -1, 2, c[0]}, {mixedPatch(), 1, 3, 2, c[0]},
		{mixedPatch(), end, end, end, c[0]}, {mixedPatch(), start, start, start, c[0]}, {mixedPatch(), start, 1, 2, c[0]}, {mixedPatch(), 1, end, 2, c[0]}, {mixedPatch(), 1, 1, start, c[0]},
		{beyondPatch(), 1, 1, 0, vec(-1000000, 1000000, 1000000)}, {beyondPatch(), 1, 1, 64, vec(-938477, 968750, 968750)}, {beyondPatch(), 0, 3, 2, vec(-1000000, 1000000, 1000000)},
	}
	for _, c := range cases {
		if got := impl.EvalPatch(c.p, c.i, c.j, c.n); got != c.want {
			t.Errorf("EvalPatch(%v, %d, %d, %d) = %v, not %v", c.p, c.i, c.j, c.n, got, c.want)
		}
	}
}

// wantEdge interpolates as the document's Lerp does, between the ends of the edge.
func wantEdge(p impl.Patch, k, i, n int) impl.Vec {
	if k < 0 || k > 3 {
		return clampedVec(p.Corners[0])
	}
	ends := edgeEnds()[k]
	return wantLerp(p.Corners[ends[0]], p.Corners[ends[1]], i, n)
}

func TestP15EvalEdge(t *testing.T) {
	edges := []int{math.MinInt, -4, -3, -2, -1, 0, 1, 2, 3, 4, 5, 6, 7, 1 << 32, math.MaxInt}
	for _, p := range []impl.Patch{documentPatch(), mixedPatch(), widePatch(), beyondPatch()} {
		for _, k := range edges {
			for _, n := range append(fractionEnds(), gridNumbers()...) {
				for _, i := range append(fractionEnds(), gridNumbers()...) {
					if got, want := impl.EvalEdge(p, k, i, n), wantEdge(p, k, i, n); got != want {
						t.Fatalf("EvalEdge(%v, %d, %d, %d) = %v, not %v", p, k, i, n, got, want)
					}
				}
			}
		}
	}
	for _, p := range anyPatches() {
		for k := -1; k <= 4; k++ {
			for _, f := range [][2]int{{0, 1}, {1, 1}, {1, 2}, {2, 3}, {64, 65}, {1000, 4096}, {3, 2}, {-1, 2}, {1, 0}, {1, 4097}} {
				if got, want := impl.EvalEdge(p, k, f[0], f[1]), wantEdge(p, k, f[0], f[1]); got != want {
					t.Fatalf("EvalEdge(%v, %d, %d, %d) = %v, not %v", p, k, f[0], f[1], got, want)
				}
			}
		}
	}
}

func TestP15EvalEdgeCases(t *testing.T) {
	p := mixedPatch()
	c := p.Corners
	cases := []struct {
		p       impl.Patch
		k, i, n int
		want    impl.Vec
	}{
		{documentPatch(), 0, 1, 2, vec(2, 0, 0)}, {documentPatch(), 1, 1, 2, vec(2, 4, 4)}, {documentPatch(), 2, 1, 2, vec(0, 2, 0)}, {documentPatch(), 3, 1, 2, vec(4, 2, 4)},
		{p, 0, 0, 5, c[0]}, {p, 0, 5, 5, c[1]}, {p, 1, 0, 5, c[2]}, {p, 1, 5, 5, c[3]}, {p, 2, 0, 5, c[0]}, {p, 2, 5, 5, c[2]}, {p, 3, 0, 5, c[1]}, {p, 3, 5, 5, c[3]},
		{p, 0, 1, 2, vec(50, 2, -26)}, {p, 1, 1, 2, vec(23, -32, 505)}, {p, 2, 1, 2, vec(-15, 31, 6)}, {p, 3, 1, 2, vec(88, -61, 473)},
		{p, 0, 1, 65, vec(2, -2, 2)}, {p, 1, 64, 65, vec(75, -126, 985)}, {p, 2, 2048, 4096, vec(-15, 31, 6)}, {p, 3, 4096, 4096, c[3]}, {p, 3, 4095, 4096, vec(77, -128, 1000)},
		{p, 0, 1, 4097, c[0]}, {p, 1, 1, 4097, c[2]}, {p, 2, 1, 4097, c[0]}, {p, 3, 1, 4097, c[1]}, {p, 1, 3, 2, c[2]}, {p, 3, -1, 2, c[1]}, {p, 1, 0, 0, c[2]}, {p, 3, 1, -1, c[1]},
		{p, 3, math.MaxInt, math.MaxInt, c[1]}, {p, 1, math.MinInt, math.MinInt, c[2]}, {p, 1, math.MaxInt, 64, c[2]},
		{p, -1, 1, 2, c[0]}, {p, 4, 1, 2, c[0]}, {p, math.MinInt, 1, 2, c[0]}, {p, math.MaxInt, 1, 2, c[0]}, {p, 4, 2, 2, c[0]},
		{beyondPatch(), 4, 1, 2, vec(-1000000, 1000000, 1000000)}, {beyondPatch(), 3, 0, 0, vec(1000000, -1000000, 1000000)}, {beyondPatch(), 1, 3, 4, vec(-500000, -500000, -1000000)},
	}
	for _, c := range cases {
		if got := impl.EvalEdge(c.p, c.k, c.i, c.n); got != c.want {
			t.Errorf("EvalEdge(%v, %d, %d, %d) = %v, not %v", c.p, c.k, c.i, c.n, got, c.want)
		}
	}
}

func TestP15IsValidSubPatch(t *testing.T) {
	for n := -200; n <= 200; n++ {
		isPower := slices.Contains(powersOfTwo(), n)
		for _, u := range []int{math.MinInt, -1, 0, 1, n / 2, n - 1, n, n + 1, math.MaxInt} {
			for _, v := range []int{math.MinInt, -1, 0, 1, n / 2, n - 1, n, n + 1, math.MaxInt} {
				want := isPower && u >= 0 && u < n && v >= 0 && v < n
				if got := impl.IsValidSubPatch(sub(u, v, n)); got != want {
					t.Errorf("IsValidSubPatch(%v) = %v", sub(u, v, n), got)
				}
			}
		}
	}
	for _, n := range powersOfTwo() {
		for _, q := range allSubPatches(n) {
			if !impl.IsValidSubPatch(q) {
				t.Errorf("%v is not valid", q)
			}
		}
	}
	for _, q := range invalidSubPatches() {
		if impl.IsValidSubPatch(q) {
			t.Errorf("%v is valid", q)
		}
	}
}

func TestP15SplitSubPatch(t *testing.T) {
	for _, n := range []int{1, 2, 4, 8, 16, 32} {
		for _, q := range allSubPatches(n) {
			u, v := 2*q.U, 2*q.V
			want := []impl.SubPatch{sub(u, v, 2*n), sub(u+1, v, 2*n), sub(u, v+1, 2*n), sub(u+1, v+1, 2*n)}
			if got := impl.SplitSubPatch(q); !slices.Equal(got, want) {
				t.Errorf("SplitSubPatch(%v) = %v, not %v", q, got, want)
			}
		}
	}
	cases := []struct {
		q    impl.SubPatch
		want []impl.SubPatch
	}{
		{sub(0, 0, 1), []impl.SubPatch{sub(0, 0, 2), sub(1, 0, 2), sub(0, 1, 2), sub(1, 1, 2)}},
		{sub(1, 0, 2), []impl.SubPatch{sub(2, 0, 4), sub(3, 0, 4), sub(2, 1, 4), sub(3, 1, 4)}},
		{sub(31, 5, 32), []impl.SubPatch{sub(62, 10, 64), sub(63, 10, 64), sub(62, 11, 64), sub(63, 11, 64)}},
		{sub(31, 31, 32), []impl.SubPatch{sub(62, 62, 64), sub(63, 62, 64), sub(62, 63, 64), sub(63, 63, 64)}},
	}
	for _, c := range cases {
		if got := impl.SplitSubPatch(c.q); !slices.Equal(got, c.want) {
			t.Errorf("SplitSubPatch(%v) = %v, not %v", c.q, got, c.want)
		}
	}
	for _, q := range append(invalidSubPatches(), allSubPatches(64)...) {
		if got := impl.SplitSubPatch(q); got != nil {
			t.Errorf("SplitSubPatch(%v) = %v, not nil", q, got)
		}
	}
}

func TestP15ResultsOfSplitSubPatchAreNew(t *testing.T) {
	q := sub(1, 0, 2)
	one, two := impl.SplitSubPatch(q), impl.SplitSubPatch(q)
	want := slices.Clone(two)
	for i := range one[:cap(one)] {
		one[:cap(one)][i] = sub(-7, -7, -7)
	}
	if three := impl.SplitSubPatch(q); !slices.Equal(two, want) || !slices.Equal(three, want) {
		t.Errorf("after a change of one result, the others are %v and %v", two, three)
	}
}

func TestP15EvalSubPatch(t *testing.T) {
	for _, p := range []impl.Patch{documentPatch(), mixedPatch(), widePatch(), beyondPatch()} {
		for _, parts := range powersOfTwo() {
			most := 64 / parts
			for _, q := range []impl.SubPatch{sub(0, 0, parts), sub(parts-1, 0, parts), sub(parts/2, parts-1, parts)} {
				for _, n := range []int{math.MinInt, -1, 0, 1, 2, most - 1, most, most + 1, 64, 65, math.MaxInt} {
					for _, i := range []int{math.MinInt, -1, 0, 1, n, n + 1, math.MaxInt} {
						for _, j := range []int{math.MinInt, -1, 0, n / 2, n, n + 1, math.MaxInt} {
							wantOk := n >= 1 && n <= most && i >= 0 && i <= n && j >= 0 && j <= n
							var want impl.Vec
							if wantOk {
								want = wantPoint(p, q.U*n+i, q.V*n+j, parts*n)
							}
							if got, ok := impl.EvalSubPatch(p, q, i, j, n); got != want || ok != wantOk {
								t.Fatalf("EvalSubPatch(%v, %v, %d, %d, %d) = %v, %v, not %v, %v", p, q, i, j, n, got, ok, want, wantOk)
							}
						}
					}
				}
			}
		}
	}
}

func TestP15EvalSubPatchCases(t *testing.T) {
	p, c := documentPatch(), mixedPatch().Corners
	cases := []struct {
		p       impl.Patch
		q       impl.SubPatch
		i, j, n int
		want    impl.Vec
	}{
		{p, sub(1, 1, 2), 1, 1, 1, vec(4, 4, 8)}, {p, sub(1, 1, 2), 0, 0, 1, vec(2, 2, 2)}, {p, sub(0, 0, 2), 1, 1, 1, vec(2, 2, 2)}, {p, sub(1, 0, 2), 0, 1, 1, vec(2, 2, 2)},
		{p, sub(0, 1, 2), 1, 0, 1, vec(2, 2, 2)}, {p, sub(1, 0, 2), 1, 0, 1, vec(4, 0, 0)}, {p, sub(0, 1, 2), 0, 1, 1, vec(0, 4, 0)}, {p, sub(0, 0, 1), 1, 1, 2, vec(2, 2, 2)},
		{p, sub(3, 1, 4), 1, 2, 2, vec(3, 2, 3)}, {p, sub(3, 2, 4), 0, 0, 16, vec(3, 2, 3)}, {p, sub(63, 62, 64), 0, 0, 1, vec(3, 3, 7)}, {p, sub(62, 61, 64), 1, 1, 1, vec(3, 3, 7)},
		{mixedPatch(), sub(0, 0, 1), 0, 0, 64, c[0]}, {mixedPatch(), sub(63, 0, 64), 1, 0, 1, c[1]}, {mixedPatch(), sub(0, 7, 8), 0, 8, 8, c[2]}, {mixedPatch(), sub(31, 31, 32), 2, 2, 2, c[3]},
		{beyondPatch(), sub(0, 0, 64), 1, 1, 1, vec(-938477, 968750, 968750)}, {beyondPatch(), sub(0, 0, 1), 0, 0, 1, vec(-1000000, 1000000, 1000000)},
	}
	for _, c := range cases {
		if got, ok := impl.EvalSubPatch(c.p, c.q, c.i, c.j, c.n); got != c.want || !ok {
			t.Errorf("EvalSubPatch(%v, %v, %d, %d, %d) = %v, %v, not %v", c.p, c.q, c.i, c.j, c.n, got, ok, c.want)
		}
	}
}

func wantNoPoint(t *testing.T, q impl.SubPatch, i, j, n int) {
	t.Helper()
	if v, ok := impl.EvalSubPatch(mixedPatch(), q, i, j, n); v != (impl.Vec{}) || ok {
		t.Errorf("EvalSubPatch of %v at %d, %d of %d is %v, %v", q, i, j, n, v, ok)
	}
}

func TestP15EvalSubPatchRejects(t *testing.T) {
	for _, q := range invalidSubPatches() {
		for _, n := range []int{math.MinInt, -1, 0, 1, 2, 64, math.MaxInt} {
			wantNoPoint(t, q, 0, 0, n)
			wantNoPoint(t, q, 0, n, n)
		}
	}
	for log, parts := range powersOfTwo() {
		for _, q := range []impl.SubPatch{sub(0, 0, parts), sub(parts-1, parts-1, parts)} {
			most := 64 / parts
			for _, n := range []int{most + 1, 2 * most, 65, 0, -1, -most, math.MinInt, math.MinInt + 1, math.MaxInt} {
				wantNoPoint(t, q, 0, 0, n)
				wantNoPoint(t, q, n, n, n)
			}
			for _, bad := range []int{-1, most + 1, math.MinInt, math.MaxInt} {
				wantNoPoint(t, q, bad, 0, most)
				wantNoPoint(t, q, 0, bad, most)
			}
			// The product of parts and such an n is one from 1 to MaxGrid, if it wraps around.
			for shift := 64 - log; shift < 63; shift++ {
				n := 1<<shift + 1
				wantNoPoint(t, q, 0, 0, n)
				wantNoPoint(t, q, 1, 1, n)
				wantNoPoint(t, q, n, n, n)
				wantNoPoint(t, q, 0, 0, -n)
			}
			wantNoPoint(t, q, 0, 0, 1<<62+most)
		}
	}
}

func TestP15TransformPatch(t *testing.T) {
	lists := [][]impl.Transform{nil, {}, {impl.Identity()}, {impl.UniformScale(8), mixedTransform()}, {mixedTransform(), impl.UniformScale(8)}, {withCoefficient(mixedTransform(), 0, 65)}}
	for i, all := 0, anyTransforms(); i+3 < len(all); i += 5 {
		lists = append(lists, all[i:i+1], all[i:i+3])
	}
	for _, p := range anyPatches() {
		for _, l := range lists {
			want := p
			for k := range 4 {
				for _, x := range l {
					want.Corners[k] = wantApply(x, want.Corners[k])
				}
			}
			if got := impl.TransformPatch(l, p); got != want {
				t.Fatalf("TransformPatch(%v, %v) = %v, not %v", l, p, got, want)
			}
		}
	}
}

func TestP15TransformPatchCases(t *testing.T) {
	p, beyond, wide := documentPatch(), beyondPatch(), widePatch()
	invalid := withCoefficient(impl.Identity(), 4, 65)
	double, turn, move := impl.UniformScale(32), impl.QuarterTurn(2, 1), impl.Translation(vec(10, 20, 30))
	cases := []struct {
		l       []impl.Transform
		p, want impl.Patch
	}{
		{nil, p, p}, {[]impl.Transform{}, p, p}, {nil, beyond, beyond}, {[]impl.Transform{}, beyond, beyond}, {[]impl.Transform{invalid}, beyond, beyond}, {[]impl.Transform{invalid, invalid}, p, p},
		{[]impl.Transform{impl.Identity()}, p, p}, {[]impl.Transform{impl.Identity()}, beyond, wide}, {[]impl.Transform{invalid, impl.Identity()}, beyond, wide},
		{[]impl.Transform{double}, p, patch(vec(0, 0, 0), vec(8, 0, 0), vec(0, 8, 0), vec(8, 8, 16))},
		{[]impl.Transform{move}, p, patch(vec(10, 20, 30), vec(14, 20, 30), vec(10, 24, 30), vec(14, 24, 38))},
		{[]impl.Transform{move, double}, p, patch(vec(20, 40, 60), vec(28, 40, 60), vec(20, 48, 60), vec(28, 48, 76))},
		{[]impl.Transform{double, move}, p, patch(vec(10, 20, 30), vec(18, 20, 30), vec(10, 28, 30), vec(18, 28, 46))},
		{[]impl.Transform{double, invalid, move}, p, patch(vec(10, 20, 30), vec(18, 20, 30), vec(10, 28, 30), vec(18, 28, 46))},
		{[]impl.Transform{move, turn}, p, patch(vec(-20, 10, 30), vec(-20, 14, 30), vec(-24, 10, 30), vec(-24, 14, 38))},
		{[]impl.Transform{turn, move}, p, patch(vec(10, 20, 30), vec(10, 24, 30), vec(6, 20, 30), vec(6, 24, 38))},
		{[]impl.Transform{double}, wide, wide}, {[]impl.Transform{double, impl.UniformScale(8)}, wide, impl.TransformPatch([]impl.Transform{impl.UniformScale(8)}, wide)},
	}
	for _, c := range cases {
		if got := impl.TransformPatch(c.l, c.p); got != c.want {
			t.Errorf("TransformPatch(%v, %v) = %v, not %v", c.l, c.p, got, c.want)
		}
	}
}

func TestP15TransformPatchChangesNothing(t *testing.T) {
	whole := anyTransforms()[:60]
	before := slices.Clone(whole)
	for start := range whole {
		for end := start; end <= len(whole); end++ {
			impl.TransformPatch(whole[start:end], mixedPatch())
			if !slices.Equal(whole, before) {
				t.Fatalf("TransformPatch with the transforms from %d up to %d changes the slice or what lies behind its length", start, end)
			}
		}
	}
}

func TestP15PatchBounds(t *testing.T) {
	for _, p := range anyPatches() {
		c := p.Corners
		want := wantUnion(wantUnion(box(c[0], c[0]), box(c[1], c[1])), wantUnion(box(c[2], c[2]), box(c[3], c[3])))
		if got := impl.PatchBounds(p); got != want {
			t.Errorf("PatchBounds(%v) = %v, not %v", p, got, want)
		}
		if bounds, _ := impl.BoundPoints(c[:]); impl.PatchBounds(p) != bounds {
			t.Errorf("PatchBounds(%v) is not %v", p, bounds)
		}
	}
	same, out := vec(3, -4, 5), vec(1000001, math.MinInt, 7)
	cases := []struct {
		p    impl.Patch
		want impl.Box
	}{
		{impl.Patch{}, impl.Box{}}, {documentPatch(), box(vec(0, 0, 0), vec(4, 4, 8))}, {mixedPatch(), box(vec(-31, -128, -55), vec(100, 64, 1001))},
		{patch(same, same, same, same), box(same, same)}, {patch(same, same, vec(3, -4, 6), same), box(same, vec(3, -4, 6))},
		{patch(out, out, out, out), box(vec(1000000, -1000000, 7), vec(1000000, -1000000, 7))}, {patch(same, out, same, same), box(vec(3, -1000000, 5), vec(1000000, -4, 7))},
		{widePatch(), cube(-1000000, 1000000)}, {beyondPatch(), cube(-1000000, 1000000)},
	}
	for _, c := range cases {
		if got := impl.PatchBounds(c.p); got != c.want {
			t.Errorf("PatchBounds(%v) = %v, not %v", c.p, got, c.want)
		}
	}
	for k := range 4 {
		p := withCorner(impl.Patch{}, k, vec(-1, 2, -3))
		if got := impl.PatchBounds(p); got != box(vec(-1, 0, -3), vec(0, 2, 0)) {
			t.Errorf("PatchBounds(%v) = %v", p, got)
		}
	}
}

func TestP15FormatPatch(t *testing.T) {
	for _, p := range anyPatches() {
		var words []string
		for _, v := range p.Corners {
			words = append(words, fmt.Sprintf("%d,%d,%d", v.X, v.Y, v.Z))
		}
		want := strings.Join(words, " ")
		if !wantValidPatch(p) {
			want = ""
		}
		if got := impl.FormatPatch(p); got != want {
			t.Errorf("FormatPatch(%v) = %q, not %q", p, got, want)
		}
	}
	cases := []struct {
		p    impl.Patch
		want string
	}{
		{impl.Patch{}, "0,0,0 0,0,0 0,0,0 0,0,0"}, {documentPatch(), "0,0,0 4,0,0 0,4,0 4,4,8"}, {mixedPatch(), "1,-2,3 100,7,-55 -31,64,9 77,-128,1001"},
		{widePatch(), "-1000000,1000000,1000000 1000000,-1000000,1000000 1000000,1000000,-1000000 -1000000,-1000000,-1000000"}, {beyondPatch(), ""},
	}
	for _, c := range cases {
		if got := impl.FormatPatch(c.p); got != c.want {
			t.Errorf("FormatPatch(%v) = %q, not %q", c.p, got, c.want)
		}
	}
	for k := range 4 {
		for component := range 3 {
			for _, n := range []int{1000001, -1000001, impl.MaxNum, impl.MaxNum + 1, math.MaxInt, math.MinInt} {
				if got := impl.FormatPatch(withCornerComponent(widePatch(), k, component, n)); got != "" {
					t.Errorf("FormatPatch with %d in corner %d is %q", n, k, got)
				}
			}
		}
	}
}

func TestP15ParsePatch(t *testing.T) {
	cases := []struct {
		s    string
		want impl.Patch
	}{
		{"0,0,0 0,0,0 0,0,0 0,0,0", impl.Patch{}}, {"0,0,0 4,0,0 0,4,0 4,4,8", documentPatch()}, {"1,-2,3 100,7,-55 -31,64,9 77,-128,1001", mixedPatch()},
		{"-1000000,1000000,1000000 1000000,-1000000,1000000 1000000,1000000,-1000000 -1000000,-1000000,-1000000", widePatch()},
		{"1,2,3 4,5,6 7,8,9 10,11,12", patch(vec(1, 2, 3), vec(4, 5, 6), vec(7, 8, 9), vec(10, 11, 12))},
	}
	for _, c := range cases {
		if got, ok := impl.ParsePatch(c.s); got != c.want || !ok {
			t.Errorf("ParsePatch(%q) = %v, %v", c.s, got, ok)
		}
	}
}

func wantNoPatch(t *testing.T, s string) {
	t.Helper()
	if p, ok := impl.ParsePatch(s); p != (impl.Patch{}) || ok {
		t.Errorf("ParsePatch(%q) = %v, %v", s, p, ok)
	}
}

func TestP15ParsePatchRejects(t *testing.T) {
	rejected := []string{
		"", " ", "   ", "-", "- - - -", "0,0,0", "1,2,3 4,5,6", "1,2,3 4,5,6 7,8,9", "1,2,3 4,5,6 7,8,9 10,11,12 13,14,15", "1,2,3 4,5,6 7,8,9 10,11,12 -",
		" 1,2,3 4,5,6 7,8,9 10,11,12", "1,2,3 4,5,6 7,8,9 10,11,12 ", "1,2,3  4,5,6 7,8,9 10,11,12", "1,2,3 4,5,6  7,8,9 10,11,12", "1,2,3 4,5,6 7,8,9  10,11,12", " 1,2,3 4,5,6 7,8,9", "1,2,3 4,5,6 7,8,9 ", "1,2,3  4,5,6 7,8,9",
		"1,2,3 4,5,6 7,8,9 10,11,12\n", "\n1,2,3 4,5,6 7,8,9 10,11,12", "1,2,3\n4,5,6\n7,8,9\n10,11,12", "1,2,3\t4,5,6 7,8,9 10,11,12", "1,2,3;4,5,6;7,8,9;10,11,12", "1,2,3,4,5,6,7,8,9,10,11,12", "1,2,3 4,5,6 7,8,9,10,11,12",
		"1,2 3,4 5,6 7,8", "1 2 3 4", "1,2,3,4 5,6,7 8,9,10 11,12", "1,2,3 , 4,5,6 7,8,9", "1, 2,3 4,5,6 7,8,9", "1,2,3 4,5,6 7,8,9 x", "x y z w", "1,2,3 4,5,6 7,8,9 10,11,\xff", "1,2,3 4,5,6 7,8,9 10,11,12\x00", "1,2,3\u00a04,5,6 7,8,9 10,11,12",
		strings.Repeat("1,2,3 ", 500), strings.Repeat(" ", 500), strings.Repeat("1,2,3", 500),
	}
	for _, s := range rejected {
		wantNoPatch(t, s)
	}
	// Each of the twelve components in turn is replaced by text that cannot stand there.
	bad := []string{
		"", "-", "+1", "-0", "+0", "00", "01", "-01", "1.0", "1e3", "0x1", "x", "1,1", "1,", ",1", "1 ", " 1", "1 1",
		"1000001", "-1000001", "1000000000", "-1000000000", "1000000001", "9223372036854775808", "18446744073709551617",
	}
	for place := range 12 {
		for _, word := range bad {
			wantNoPatch(t, patchTextWith(place, word))
		}
		for _, n := range []int{0, 1000000, -1000000} {
			want := withCornerComponent(patch(vec(1, 2, 3), vec(4, 5, 6), vec(7, 8, 9), vec(10, 11, 12)), place/3, place%3, n)
			if p, ok := impl.ParsePatch(patchTextWith(place, strconv.Itoa(n))); p != want || !ok {
				t.Errorf("ParsePatch with %d in place %d = %v, %v", n, place, p, ok)
			}
		}
	}
}

// patchTextWith writes a patch with the given word in one of its twelve places.
func patchTextWith(place int, word string) string {
	words := strings.Split("1,2,3,4,5,6,7,8,9,10,11,12", ",")
	words[place] = word
	var corners []string
	for k := 0; k < 12; k += 3 {
		corners = append(corners, strings.Join(words[k:k+3], ","))
	}
	return strings.Join(corners, " ")
}
