package tests

import (
	"fmt"
	"math"
	"math/big"
	"slices"
	"strings"
	"testing"

	"loop.example/g00809/impl"
)

// triangleOf is the triangle with the corners a, b and c.
func triangleOf(a, b, c impl.Vec) impl.Triangle {
	return impl.Triangle{P: [3]impl.Vec{a, b, c}}
}

// flatTriangle has the depth 0 in all of its corners, which are pairs of X and Y.
func flatTriangle(a, b, c [2]int) impl.Triangle {
	return triangleOf(vec(a[0], a[1], 0), vec(b[0], b[1], 0), vec(c[0], c[1], 0))
}

// withDepths replaces the Z of each corner.
func withDepths(x impl.Triangle, a, b, c int) impl.Triangle {
	x.P[0].Z, x.P[1].Z, x.P[2].Z = a, b, c
	return x
}

// withPart replaces one component of corner k by n.
func withPart(x impl.Triangle, k, component, n int) impl.Triangle {
	x.P[k] = withComponent(x.P[k], component, n)
	return x
}

// inEveryOrder lists the triangles with the corners of x: three with its orientation, and three with the opposite one.
func inEveryOrder(x impl.Triangle) []impl.Triangle {
	a, b, c := x.P[0], x.P[1], x.P[2]
	return []impl.Triangle{x, triangleOf(b, c, a), triangleOf(c, a, b), triangleOf(a, c, b), triangleOf(c, b, a), triangleOf(b, a, c)}
}

// documentTriangle covers the corner of the square from 0 to 8 that is next to 0, 0.
func documentTriangle() impl.Triangle {
	return flatTriangle([2]int{0, 0}, [2]int{8, 0}, [2]int{0, 8})
}

// widestTriangle covers half of all positions.
func widestTriangle() impl.Triangle {
	e := 100000
	return flatTriangle([2]int{-e, -e}, [2]int{e, -e}, [2]int{-e, e})
}

// otherHalf covers the positions that widestTriangle leaves, but for those on the far borders.
func otherHalf() impl.Triangle {
	e := 100000
	return flatTriangle([2]int{e, e}, [2]int{-e, e}, [2]int{e, -e})
}

// clampedCorners is written without the program's own Clamp.
func clampedCorners(x impl.Triangle) [3]impl.Vec {
	for k, v := range x.P {
		x.P[k] = vec(within(v.X, -100000, 100000), within(v.Y, -100000, 100000), within(v.Z, -1000000, 1000000))
	}
	return x.P
}

// wantArea is the document's area in numbers without a limit.
func wantArea(p, q, r impl.Vec) *big.Int {
	return new(big.Int).Sub(product(q.X-p.X, r.Y-p.Y), product(q.Y-p.Y, r.X-p.X))
}

func wantArea2(x impl.Triangle) *big.Int {
	p := clampedCorners(x)
	return wantArea(p[0], p[1], p[2])
}

// wantCovers follows the document step by step.
func wantCovers(x impl.Triangle, sx, sy int) bool {
	if sx < -100000 || sx > 100000 || sy < -100000 || sy > 100000 {
		return false
	}
	p := clampedCorners(x)
	orientation := wantArea(p[0], p[1], p[2]).Sign()
	if orientation < 0 {
		p[1], p[2] = p[2], p[1]
	}
	for _, ends := range [][2]impl.Vec{{p[0], p[1]}, {p[1], p[2]}, {p[2], p[0]}} {
		a, b := ends[0], ends[1]
		inclusive := b.Y < a.Y || b.Y == a.Y && b.X > a.X
		side := wantArea(a, b, vec(sx, sy, 0)).Sign()
		if side < 0 || side == 0 && !inclusive {
			return false
		}
	}
	return orientation != 0
}

func wantDepth(x impl.Triangle, sx, sy int) (int, bool) {
	if !wantCovers(x, sx, sy) {
		return 0, false
	}
	p, s := clampedCorners(x), vec(sx, sy, 0)
	sum := new(big.Int)
	for k, v := range p {
		weight := wantArea(p[(k+1)%3], p[(k+2)%3], s)
		sum.Add(sum, weight.Mul(weight.Abs(weight), big.NewInt(int64(v.Z))))
	}
	whole := wantArea2(x)
	return quotient(sum, int(whole.Abs(whole).Int64())), true
}

// hasMoved reports whether x contains, not on its border, what is a little to the right of the position and still less below it.
// The distances are one part in 2 to the 20th of a position, and the square of this, which is less than any line with corners
// on the screen can tell apart from a position that it does not touch.
func hasMoved(x impl.Triangle, sx, sy int) bool {
	const unit = 1 << 20
	s := [2]*big.Int{product(sx*unit, unit), product(sy*unit, unit)}
	s[0].Add(s[0], big.NewInt(unit))
	s[1].Add(s[1], big.NewInt(1))
	p := clampedCorners(x)
	signs := 0
	for k, a := range p {
		b := p[(k+1)%3]
		across := new(big.Int).Sub(s[1], product(a.Y*unit, unit))
		along := new(big.Int).Sub(s[0], product(a.X*unit, unit))
		across.Mul(across, big.NewInt(int64(b.X-a.X)))
		along.Mul(along, big.NewInt(int64(b.Y-a.Y)))
		signs += across.Cmp(along)
	}
	return signs == 3 || signs == -3
}

// screenNumbers lists components inside, at the ends of and beyond the ranges of the screen and of the depths.
func screenNumbers() []int {
	return append([]int{99998, -99998, -99999, 100000, -100000, 100001, -100001, 200000, -200000, 1 << 32, -1<<32 - 1, 1<<62 + 5}, coordinates()...)
}

// anyTriangles lists triangles of both orientations and without an area, with corners in and out of range.
func anyTriangles() []impl.Triangle {
	l := []impl.Triangle{{}, documentTriangle(), widestTriangle(), otherHalf()}
	c := screenNumbers()
	for i, n := range c {
		l = append(l, triangleOf(vec(n, n, n), vec(n, n, n), vec(n, n, n)))
		at := func(k int) int { return c[(i*(k+2)+5*k)%len(c)] }
		l = append(l, triangleOf(vec(n, at(1), at(2)), vec(at(3), at(4), n), vec(at(5), n, at(6))))
		l = append(l, triangleOf(vec(at(7), at(8), n), vec(n, at(9), at(10)), vec(at(11), at(12), at(13))))
	}
	small := triangleOf(vec(-5, 3, 9), vec(11, -7, -4), vec(2, 17, 1000))
	for _, base := range []impl.Triangle{small, impl.FlipTriangle(small), withDepths(documentTriangle(), -3, 5, -7), withDepths(widestTriangle(), 1000000, -1000000, 999999)} {
		for k := range 3 {
			for component := range 3 {
				for _, n := range c {
					l = append(l, withPart(base, k, component, n))
				}
			}
		}
	}
	return l
}

// smallTriangles lists all triangles with corners on a grid of side x side positions.
func smallTriangles(side int) []impl.Triangle {
	var l []impl.Triangle
	corner := func(k int) [2]int { return [2]int{k % side, k / side} }
	for a := range side * side {
		for b := range side * side {
			for c := range side * side {
				l = append(l, flatTriangle(corner(a), corner(b), corner(c)))
			}
		}
	}
	return l
}

// spotsAround lists the positions at the corners of x, between them, and next to these.
func spotsAround(x impl.Triangle) [][2]int {
	p := clampedCorners(x)
	centers := [][2]int{{(p[0].X + p[1].X + p[2].X) / 3, (p[0].Y + p[1].Y + p[2].Y) / 3}}
	for k, a := range p {
		b := p[(k+1)%3]
		centers = append(centers, [2]int{a.X, a.Y}, [2]int{(a.X + b.X) / 2, (a.Y + b.Y) / 2}, [2]int{(3*a.X + b.X) / 4, (3*a.Y + b.Y) / 4})
	}
	var l [][2]int
	for _, c := range centers {
		for _, step := range [][2]int{{0, 0}, {1, 0}, {-1, 0}, {0, 1}, {0, -1}} {
			l = append(l, [2]int{c[0] + step[0], c[1] + step[1]})
		}
	}
	return l
}

// hasSpot reports whether s lies on the line between a and b and strictly between them.
func hasSpot(a, b, s [2]int) bool {
	between := func(k int) bool { return min(a[k], b[k]) <= s[k] && s[k] <= max(a[k], b[k]) }
	onLine := (b[0]-a[0])*(s[1]-a[1]) == (b[1]-a[1])*(s[0]-a[0])
	return onLine && between(0) && between(1) && s != a && s != b
}

// coverings counts the triangles of l that cover the position.
func coverings(l []impl.Triangle, x, y int) int {
	count := 0
	for _, t := range l {
		if impl.Covers(t, x, y) {
			count++
		}
	}
	return count
}

// isOnSide compares the sign of the area of a, b and c with the given one.
func isOnSide(a, b, c [2]int, sign int) bool {
	area := (b[0]-a[0])*(c[1]-a[1]) - (b[1]-a[1])*(c[0]-a[0])
	return area*sign > 0
}

func TestP5PositionsOnASharedEdgeAreCoveredOnce(t *testing.T) {
	start, compared := [2]int{3, -2}, 0
	for dx := -6; dx <= 6; dx++ {
		for dy := -6; dy <= 6; dy++ {
			end := [2]int{start[0] + dx, start[1] + dy}
			for k := range 49 {
				left, right := [2]int{k%7 - 1, k/7 - 5}, [2]int{(5*k+3)%7*3 - 7, (11*k+2)%7*2 - 9}
				if !isOnSide(start, end, left, 1) || !isOnSide(start, end, right, -1) {
					continue
				}
				for _, a := range inEveryOrder(flatTriangle(start, end, left)) {
					for _, b := range inEveryOrder(flatTriangle(end, start, right)) {
						checkSharedEdge(t, a, b, start, end)
						compared++
					}
				}
			}
		}
	}
	if compared < 10000 {
		t.Errorf("only %d pairs of triangles were compared", compared)
	}
}

// checkSharedEdge wants each position between the ends of the edge in exactly one of the two triangles, and no position in both.
func checkSharedEdge(t *testing.T, a, b impl.Triangle, start, end [2]int) {
	t.Helper()
	for x := min(start[0], end[0]); x <= max(start[0], end[0]); x++ {
		for y := min(start[1], end[1]); y <= max(start[1], end[1]); y++ {
			count := coverings([]impl.Triangle{a, b}, x, y)
			if count > 1 || count == 0 && hasSpot(start, end, [2]int{x, y}) {
				t.Fatalf("%v and %v cover %d, %d %d times", a.P, b.P, x, y, count)
			}
		}
	}
}

// Neither the place of the triangles on the screen nor the length of their edge matters.
func TestP5LongSharedEdgesAreCoveredOnce(t *testing.T) {
	e := 100000
	edges := [][2][2]int{
		{{-e, -e}, {e, e}}, {{-e, e}, {e, -e}}, {{-e, 0}, {e, 0}}, {{0, -e}, {0, e}}, {{-e, -e}, {e, 0}}, {{-e, -50000}, {e, 50000}}, {{-99999, -66666}, {99999, 66666}},
		{{-60000, 90000}, {30000, -90000}}, {{99990, 99991}, {99998, 99999}}, {{-e, -99990}, {-99999, -e}}, {{e, 5}, {99000, 2005}}, {{-e, 7}, {-e + 7, 0}},
	}
	corners := [][2]int{{-e, -e}, {e, -e}, {-e, e}, {e, e}, {0, -e}, {0, e}, {-e, 0}, {e, 0}, {12345, -23456}, {-54321, 65432}}
	compared := 0
	for _, edge := range edges {
		start, end := edge[0], edge[1]
		steps := gcd(end[0]-start[0], end[1]-start[1])
		for _, left := range corners {
			for _, right := range corners {
				if !isOnSide(start, end, left, 1) || !isOnSide(start, end, right, -1) {
					continue
				}
				a, b := flatTriangle(start, end, left), flatTriangle(start, end, right)
				for i := 1; i < steps; i += max(1, steps/100) {
					x, y := start[0]+(end[0]-start[0])/steps*i, start[1]+(end[1]-start[1])/steps*i
					for k := range 6 {
						if count := coverings([]impl.Triangle{inEveryOrder(a)[k], inEveryOrder(b)[(i+k)%6]}, x, y); count != 1 {
							t.Fatalf("%v and %v cover %d, %d %d times", a.P, b.P, x, y, count)
						}
						compared++
					}
				}
			}
		}
	}
	if compared < 10000 {
		t.Errorf("only %d positions were compared", compared)
	}
}

// gcd returns the number of steps between positions on a line, whatever the signs of its differences are.
func gcd(m, n int) int {
	for n != 0 {
		m, n = n, m%n
	}
	return max(m, -m)
}

// checkDivision wants each position that the whole covers in exactly one part, and no other position in any.
func checkDivision(t *testing.T, whole impl.Triangle, divided []impl.Triangle, side int) {
	t.Helper()
	for x := -2; x <= side+1; x++ {
		for y := -2; y <= side+1; y++ {
			want := 0
			if impl.Covers(whole, x, y) {
				want = 1
			}
			if count := coverings(divided, x, y); count != want {
				t.Fatalf("the parts %v of %v cover %d, %d %d times, not %d times", divided, whole.P, x, y, count, want)
			}
		}
	}
}

// fanAround lists the triangles between the center and the sides of x.
func fanAround(x impl.Triangle, center impl.Vec) []impl.Triangle {
	p := x.P
	return []impl.Triangle{triangleOf(p[0], p[1], center), triangleOf(center, p[1], p[2]), triangleOf(p[2], center, p[0])}
}

// The center is any position of the triangle, also on its border: then one of the three parts has no area.
func TestP5PartsAroundACenterCoverTheTriangle(t *testing.T) {
	divided := 0
	for i, x := range smallTriangles(4) {
		area := impl.SignedArea2(x)
		for k := range 16 {
			center := vec(k%4, k/4, 0)
			fan, sum := fanAround(x, center), 0
			for _, part := range fan {
				sum += max(impl.SignedArea2(part), -impl.SignedArea2(part))
			}
			if area == 0 || sum != max(area, -area) {
				continue
			}
			for j, part := range fan {
				fan[j] = inEveryOrder(part)[(i+j+k)%6]
			}
			checkDivision(t, x, fan, 4)
			divided++
		}
	}
	if divided < 10000 {
		t.Errorf("only %d triangles were divided", divided)
	}
}

func TestP5FourQuartersCoverTheTriangle(t *testing.T) {
	for i, x := range smallTriangles(4) {
		for k, v := range x.P {
			x.P[k] = vec(2*v.X, 2*v.Y, 0)
		}
		middle := func(k int) impl.Vec {
			a, b := x.P[k], x.P[(k+1)%3]
			return vec((a.X+b.X)/2, (a.Y+b.Y)/2, 0)
		}
		quarters := []impl.Triangle{triangleOf(x.P[0], middle(0), middle(2)), triangleOf(middle(0), x.P[1], middle(1)), triangleOf(middle(2), middle(1), x.P[2]), triangleOf(middle(0), middle(1), middle(2))}
		for j, part := range quarters {
			quarters[j] = inEveryOrder(part)[(i+j)%6]
		}
		checkDivision(t, x, quarters, 8)
	}
}

// A division may be divided again, at any of its positions.
func TestP5DividedPartsCoverTheTriangle(t *testing.T) {
	for i, whole := range []impl.Triangle{flatTriangle([2]int{0, 0}, [2]int{40, 3}, [2]int{7, 39}), flatTriangle([2]int{40, 40}, [2]int{1, 20}, [2]int{39, 0}), flatTriangle([2]int{0, 40}, [2]int{40, 40}, [2]int{20, 1}), documentTriangle()} {
		divided := []impl.Triangle{whole}
		for k := range 30 {
			part := divided[0]
			center := impl.Vec{}
			for _, v := range part.P {
				center.X, center.Y = center.X+v.X, center.Y+v.Y
			}
			fan := fanAround(part, vec(center.X/3, center.Y/3, 0))
			sum := 0
			for _, small := range fan {
				sum += max(impl.SignedArea2(small), -impl.SignedArea2(small))
			}
			divided = divided[1:]
			if sum != max(impl.SignedArea2(part), -impl.SignedArea2(part)) {
				fan = []impl.Triangle{part}
			}
			for j, small := range fan {
				divided = append(divided, inEveryOrder(small)[(i+j+k)%6])
			}
		}
		if len(divided) < 20 && whole != documentTriangle() {
			t.Errorf("%v was divided into only %d parts", whole.P, len(divided))
		}
		checkDivision(t, whole, divided, 41)
	}
}

// The fan goes around its center, which is covered once, too, as are all positions inside.
func TestP5AFanCoversEveryPositionOnce(t *testing.T) {
	rim := [][2]int{{20, 0}, {18, 9}, {20, 20}, {9, 15}, {0, 18}, {-9, 16}, {-20, 20}, {-15, 3}, {-20, -20}, {-1, -17}, {20, -20}, {19, -7}}
	var fan []impl.Triangle
	for k, a := range rim {
		fan = append(fan, inEveryOrder(flatTriangle([2]int{0, 0}, a, rim[(k+1)%len(rim)]))[k%6])
	}
	for x := -22; x <= 22; x++ {
		for y := -22; y <= 22; y++ {
			want := 0
			if slices.ContainsFunc(fan, func(part impl.Triangle) bool { return hasMoved(part, x, y) }) {
				want = 1
			}
			if max(x, -x, y, -y) <= 10 {
				want = 1
			}
			if count := coverings(fan, x, y); count != want {
				t.Errorf("the fan covers %d, %d %d times, not %d times", x, y, count, want)
			}
		}
	}
}

// Of a rectangle, the left and the upper border are covered, and the right and the lower one are not.
func TestP5AStripCoversEveryPositionOnce(t *testing.T) {
	upper, lower := []int{0, 3, 4, 9, 10, 17, 30}, []int{0, 1, 6, 7, 12, 22, 30}
	for _, exchanged := range []bool{false, true} {
		at := func(x, y int) [2]int {
			if exchanged {
				return [2]int{y, x}
			}
			return [2]int{x, y}
		}
		var strip []impl.Triangle
		for k := 1; k < len(upper); k++ {
			strip = append(strip, flatTriangle(at(upper[k-1], 0), at(lower[k-1], 8), at(upper[k], 0)), flatTriangle(at(lower[k-1], 8), at(upper[k], 0), at(lower[k], 8)))
		}
		for x := -2; x <= 32; x++ {
			for y := -2; y <= 10; y++ {
				want := 0
				if x >= 0 && x < 30 && y >= 0 && y < 8 {
					want = 1
				}
				spot := at(x, y)
				if count := coverings(strip, spot[0], spot[1]); count != want {
					t.Errorf("the strip covers %v %d times, not %d times", spot, count, want)
				}
			}
		}
	}
}

// The points of the grid are moved, but for those on the border, and its cells are divided along one diagonal or the other.
func TestP5AGridCoversEveryPositionOnce(t *testing.T) {
	const cells, size = 6, 10
	point := func(u, v int) [2]int {
		x, y := size*u, size*v
		if u%cells != 0 && v%cells != 0 {
			x, y = x+(3*u+5*v)%5-2, y+(7*u+2*v)%5-2
		}
		return [2]int{x, y}
	}
	var grid []impl.Triangle
	for v := range cells {
		for u := range cells {
			a, b, d, e := point(u, v), point(u+1, v), point(u, v+1), point(u+1, v+1)
			if (u+v)%2 == 0 {
				grid = append(grid, flatTriangle(a, b, d), flatTriangle(b, e, d))
			} else {
				grid = append(grid, flatTriangle(a, e, d), flatTriangle(b, e, a))
			}
		}
	}
	for x := -2; x <= size*cells+2; x++ {
		for y := -2; y <= size*cells+2; y++ {
			want := 0
			if min(x, y) >= 0 && max(x, y) < size*cells {
				want = 1
			}
			if count := coverings(grid, x, y); count != want {
				t.Errorf("the grid covers %d, %d %d times, not %d times", x, y, count, want)
			}
		}
	}
}

// The two widest triangles share the whole screen, in which only the right and the lower border are covered by neither.
func TestP5TwoTrianglesCoverTheScreen(t *testing.T) {
	e := 100000
	numbers := []int{-e - 1, -e, -e + 1, -77777, -1, 0, 1, 12345, e - 2, e - 1, e, e + 1}
	for _, x := range numbers {
		for _, y := range slices.Concat(numbers, []int{-x, -x - 1, -x + 1}) {
			want := 0
			if min(x, y) >= -e && max(x, y) < e {
				want = 1
			}
			for k := range 36 {
				if count := coverings([]impl.Triangle{inEveryOrder(widestTriangle())[k/6], inEveryOrder(otherHalf())[k%6]}, x, y); count != want {
					t.Fatalf("%d, %d is covered %d times, not %d times", x, y, count, want)
				}
			}
		}
	}
}

// Which triangle has a position on its border is the same question for all triangles: what is a little to the right of the
// position, and still less below it, lies in exactly one of the triangles that meet there.
func TestP5ATriangleHasWhatIsRightAndBelow(t *testing.T) {
	for _, x := range smallTriangles(3) {
		for sx := -1; sx <= 3; sx++ {
			for sy := -1; sy <= 3; sy++ {
				if got := impl.Covers(x, sx, sy); got != hasMoved(x, sx, sy) {
					t.Fatalf("Covers(%v, %d, %d) = %v", x.P, sx, sy, got)
				}
			}
		}
	}
	covered := 0
	for _, x := range anyTriangles() {
		for _, s := range spotsAround(x) {
			got := impl.Covers(x, s[0], s[1])
			if got != hasMoved(x, s[0], s[1]) {
				t.Fatalf("Covers(%v, %d, %d) = %v", x.P, s[0], s[1], got)
			}
			if got {
				covered++
			}
		}
	}
	if covered < 1000 {
		t.Errorf("only %d positions are covered", covered)
	}
}

func TestP5DepthsLieBetweenThoseOfTheCorners(t *testing.T) {
	depths := [][3]int{{0, 0, 0}, {1, 2, 3}, {-1, -1, -1}, {-3, 5, -7}, {0, -1, 0}, {0, 0, 1}, {1000000, -1000000, 0}, {-999999, -1000000, -999998}, {1000000, 1000000, 1000000}, {1000001, 2000000, math.MaxInt}, {math.MinInt, math.MaxInt, 5}}
	for _, x := range smallTriangles(4) {
		for _, d := range depths {
			x = withDepths(x, d[0], d[1], d[2])
			for sx := range 4 {
				for sy := range 4 {
					checkBetween(t, x, sx, sy)
				}
			}
		}
	}
	for _, x := range anyTriangles() {
		for _, s := range spotsAround(x) {
			checkBetween(t, x, s[0], s[1])
		}
	}
}

// checkBetween wants a depth from the least to the greatest of the corners, which are clamped, and none where nothing is covered.
func checkBetween(t *testing.T, x impl.Triangle, sx, sy int) {
	t.Helper()
	p := clampedCorners(x)
	z, ok := impl.DepthAt(x, sx, sy)
	if ok != impl.Covers(x, sx, sy) || !ok && z != 0 {
		t.Fatalf("DepthAt(%v, %d, %d) = %d, %v", x.P, sx, sy, z, ok)
	}
	if ok && (z < min(p[0].Z, p[1].Z, p[2].Z) || z > max(p[0].Z, p[1].Z, p[2].Z)) {
		t.Fatalf("DepthAt(%v, %d, %d) = %d is not between the corners", x.P, sx, sy, z)
	}
}

// Along a shared edge, both triangles would have the same depth, so that it does not matter which of them has the position.
func TestP5DepthsOnASharedEdgeAreThoseOfItsEnds(t *testing.T) {
	for _, z := range [][2]int{{0, 80}, {-7, 9}, {5, -1000000}, {1000000, -1000000}, {3, 3}, {-1, -2}} {
		a, b := vec(-4, 12, z[0]), vec(12, -4, z[1])
		for i := 1; i < 16; i++ {
			want := impl.Lerp(a, b, i, 16)
			l := []impl.Triangle{triangleOf(a, b, vec(-8, -9, 77)), triangleOf(b, a, vec(20, 30, -12345))}
			found := 0
			for _, x := range slices.Concat(inEveryOrder(l[0]), inEveryOrder(l[1])) {
				if got, ok := impl.DepthAt(x, want.X, want.Y); ok {
					if found++; got != want.Z {
						t.Errorf("DepthAt(%v, %d, %d) = %d, not %d", x.P, want.X, want.Y, got, want.Z)
					}
				}
			}
			if found != 6 {
				t.Errorf("%d of 12 triangles have a depth at %d, %d", found, want.X, want.Y)
			}
		}
	}
}

// Where the depths of the corners are those of a plane, each position has the depth of the plane.
func TestP5DepthsOfAPlaneAreExact(t *testing.T) {
	plane := func(x, y int) int { return 17*x - 29*y + 5 }
	for _, x := range smallTriangles(4) {
		for k, v := range x.P {
			x.P[k].Z = plane(v.X, v.Y)
		}
		for sx := range 4 {
			for sy := range 4 {
				if z, ok := impl.DepthAt(x, sx, sy); ok && z != plane(sx, sy) {
					t.Fatalf("DepthAt(%v, %d, %d) = %d, not %d", x.P, sx, sy, z, plane(sx, sy))
				}
			}
		}
	}
}

func TestP15SignedArea2(t *testing.T) {
	for _, x := range append(anyTriangles(), smallTriangles(4)...) {
		want := wantArea2(x)
		if got := impl.SignedArea2(x); big.NewInt(int64(got)).Cmp(want) != 0 {
			t.Errorf("SignedArea2(%v) = %d, not %v", x.P, got, want)
		}
		for k, y := range inEveryOrder(x) {
			want := impl.SignedArea2(x)
			if k >= 3 {
				want = -want
			}
			if got := impl.SignedArea2(y); got != want {
				t.Errorf("SignedArea2(%v) = %d, not %d", y.P, got, want)
			}
		}
	}
}

func TestP15SignedArea2Cases(t *testing.T) {
	e, low, high := 100000, math.MinInt, math.MaxInt
	cases := []struct {
		x    impl.Triangle
		want int
	}{
		{documentTriangle(), 64}, {impl.FlipTriangle(documentTriangle()), -64}, {flatTriangle([2]int{0, 0}, [2]int{1, 0}, [2]int{0, 1}), 1}, {flatTriangle([2]int{0, 0}, [2]int{0, 1}, [2]int{1, 0}), -1}, {flatTriangle([2]int{-1, -2}, [2]int{5, 1}, [2]int{0, 7}), 51}, {flatTriangle([2]int{3, 4}, [2]int{-5, 9}, [2]int{-2, -6}), 105},
		// Corners on a line, two equal corners, and three.
		{flatTriangle([2]int{0, 0}, [2]int{4, 6}, [2]int{2, 3}), 0}, {flatTriangle([2]int{-1, 5}, [2]int{7, 5}, [2]int{100, 5}), 0}, {flatTriangle([2]int{3, -9}, [2]int{3, 0}, [2]int{3, 9}), 0}, {flatTriangle([2]int{1, 2}, [2]int{1, 2}, [2]int{5, 9}), 0}, {flatTriangle([2]int{1, 2}, [2]int{5, 9}, [2]int{1, 2}), 0}, {flatTriangle([2]int{5, 9}, [2]int{1, 2}, [2]int{1, 2}), 0}, {flatTriangle([2]int{5, 9}, [2]int{5, 9}, [2]int{5, 9}), 0}, {impl.Triangle{}, 0},
		// Depths do not matter.
		{withDepths(documentTriangle(), low, high, -5), 64}, {triangleOf(vec(2, 2, 1), vec(2, 2, 9), vec(2, 2, 100)), 0},
		// The largest areas, and corners that are beyond the range or become equal or lie on a line when they are clamped.
		{widestTriangle(), 40000000000}, {impl.FlipTriangle(widestTriangle()), -40000000000}, {otherHalf(), 40000000000}, {flatTriangle([2]int{low, low}, [2]int{high, low}, [2]int{low, high}), 40000000000}, {flatTriangle([2]int{low, low}, [2]int{low, high}, [2]int{high, low}), -40000000000}, {flatTriangle([2]int{-e - 1, -e - 1}, [2]int{e + 1, -e - 1}, [2]int{-e - 1, e + 1}), 40000000000}, {flatTriangle([2]int{-e + 1, -e}, [2]int{e, -e}, [2]int{-e + 1, e}), 39999800000},
		{flatTriangle([2]int{0, 0}, [2]int{e, 0}, [2]int{0, e}), 10000000000}, {flatTriangle([2]int{0, 0}, [2]int{e + 1, 0}, [2]int{0, e + 1}), 10000000000}, {flatTriangle([2]int{0, 0}, [2]int{e - 1, 0}, [2]int{0, e - 1}), 9999800001}, {flatTriangle([2]int{0, 0}, [2]int{-e - 1, 0}, [2]int{0, 1000000}), -10000000000}, {flatTriangle([2]int{e, e}, [2]int{e + 1, e + 2}, [2]int{e + 3, e}), 0}, {flatTriangle([2]int{e, 0}, [2]int{e + 5, 7}, [2]int{high, 9}), 0}, {flatTriangle([2]int{low, low}, [2]int{low + 1, low + 5}, [2]int{low, low + 9}), 0}, {flatTriangle([2]int{high, high}, [2]int{low, low}, [2]int{0, 0}), 0}, {flatTriangle([2]int{1 << 32, 0}, [2]int{0, 1 << 32}, [2]int{0, 0}), 10000000000},
	}
	for _, c := range cases {
		if got := impl.SignedArea2(c.x); got != c.want {
			t.Errorf("SignedArea2(%v) = %d, not %d", c.x.P, got, c.want)
		}
	}
}

func TestP15FlipTriangle(t *testing.T) {
	for _, x := range append(anyTriangles(), smallTriangles(3)...) {
		want := triangleOf(x.P[0], x.P[2], x.P[1])
		if got := impl.FlipTriangle(x); got != want {
			t.Errorf("FlipTriangle(%v) = %v", x.P, got.P)
		}
		if got := impl.FlipTriangle(impl.FlipTriangle(x)); got != x {
			t.Errorf("%v, flipped twice, is %v", x.P, got.P)
		}
		if impl.SignedArea2(want) != -impl.SignedArea2(x) || impl.TriangleBounds(want) != impl.TriangleBounds(x) {
			t.Errorf("the area or the bounds of %v are not those of the flipped triangle", x.P)
		}
	}
	low, high := math.MinInt, math.MaxInt
	x := triangleOf(vec(1, 2, 3), vec(low, 100001, -1000001), vec(high, -100001, 1000001))
	if got := impl.FlipTriangle(x); got.P != [3]impl.Vec{vec(1, 2, 3), vec(high, -100001, 1000001), vec(low, 100001, -1000001)} {
		t.Errorf("FlipTriangle(%v) = %v", x.P, got.P)
	}
}

func TestP15Covers(t *testing.T) {
	far := []int{-100001, -100000, 0, 100000, 100001, 1 << 32, math.MinInt, math.MinInt + 1, math.MaxInt - 1, math.MaxInt}
	for _, x := range anyTriangles() {
		spots := spotsAround(x)
		for _, n := range far {
			for _, m := range far {
				spots = append(spots, [2]int{n, m})
			}
		}
		for _, s := range spots {
			want := wantCovers(x, s[0], s[1])
			for _, y := range inEveryOrder(x) {
				if got := impl.Covers(y, s[0], s[1]); got != want {
					t.Fatalf("Covers(%v, %d, %d) = %v", y.P, s[0], s[1], got)
				}
			}
		}
	}
	for _, x := range smallTriangles(4) {
		for sx := -1; sx <= 4; sx++ {
			for sy := -1; sy <= 4; sy++ {
				if got := impl.Covers(x, sx, sy); got != wantCovers(x, sx, sy) {
					t.Fatalf("Covers(%v, %d, %d) = %v", x.P, sx, sy, got)
				}
			}
		}
	}
}

func TestP15CoversCases(t *testing.T) {
	steep, leaning := flatTriangle([2]int{0, 0}, [2]int{10, 4}, [2]int{4, 10}), flatTriangle([2]int{-6, 2}, [2]int{0, -4}, [2]int{6, 8})
	cases := []struct {
		x       impl.Triangle
		inside  [][2]int
		outside [][2]int
	}{
		// The upper edge to the right and the left edge upward are inclusive; the one from 8, 0 downward to the left is not.
		{documentTriangle(), [][2]int{{0, 0}, {1, 0}, {4, 0}, {7, 0}, {0, 1}, {0, 4}, {0, 7}, {2, 2}, {3, 4}, {1, 6}}, [][2]int{{8, 0}, {0, 8}, {4, 4}, {1, 7}, {7, 1}, {-1, 0}, {0, -1}, {-1, 4}, {4, -1}, {5, 4}, {9, 0}, {0, 9}, {9, 9}, {8, 8}, {-1, -1}}},
		// The lower edge to the left and the right edge downward are not inclusive; the one from 0, 8 upward to the right is.
		{flatTriangle([2]int{8, 8}, [2]int{0, 8}, [2]int{8, 0}), [][2]int{{4, 4}, {1, 7}, {7, 1}, {5, 4}, {7, 7}, {2, 7}, {7, 2}}, [][2]int{{8, 8}, {0, 8}, {8, 0}, {4, 8}, {8, 4}, {1, 8}, {8, 1}, {3, 4}, {0, 0}, {9, 4}, {4, 9}, {9, 9}}},
		// From 0, 0 downward to 10, 4, which is not inclusive, but for the triangle on its other side; back upward from 4, 10.
		{steep, [][2]int{{1, 1}, {2, 5}, {2, 4}, {5, 5}, {6, 7}, {7, 6}, {4, 9}, {5, 3}, {9, 4}}, [][2]int{{5, 2}, {10, 4}, {4, 10}, {7, 7}, {6, 8}, {5, 9}, {8, 6}, {1, 3}, {2, 6}}},
		{flatTriangle([2]int{0, 0}, [2]int{10, 4}, [2]int{9, 0}), [][2]int{{5, 2}, {0, 0}, {5, 1}, {9, 1}, {1, 0}, {8, 0}, {8, 3}}, [][2]int{{10, 4}, {9, 0}, {5, 3}, {10, 3}, {0, 1}}},
		// From -6, 2 upward to 0, -4, then downward to 6, 8, and back upward.
		{leaning, [][2]int{{-6, 2}, {-5, 1}, {-3, -1}, {-1, -3}, {0, 0}, {2, 6}, {4, 7}, {0, -3}, {2, 1}, {4, 5}, {0, 5}, {-4, 3}, {-2, 4}}, [][2]int{{0, -4}, {6, 8}, {1, -2}, {3, 2}, {5, 6}, {-4, -1}, {-2, 5}, {-5, 3}, {0, 6}}},
		// No area: three corners on a line, two equal corners, and three.
		{flatTriangle([2]int{0, 0}, [2]int{4, 4}, [2]int{8, 8}), nil, [][2]int{{0, 0}, {4, 4}, {8, 8}, {2, 2}, {3, 4}}}, {flatTriangle([2]int{0, 5}, [2]int{9, 5}, [2]int{4, 5}), nil, [][2]int{{0, 5}, {4, 5}, {9, 5}, {1, 5}}}, {flatTriangle([2]int{5, 9}, [2]int{5, 0}, [2]int{5, 4}), nil, [][2]int{{5, 0}, {5, 4}, {5, 9}}}, {flatTriangle([2]int{1, 1}, [2]int{1, 1}, [2]int{6, 1}), nil, [][2]int{{1, 1}, {3, 1}, {6, 1}}}, {flatTriangle([2]int{1, 1}, [2]int{1, 1}, [2]int{1, 1}), nil, [][2]int{{1, 1}, {0, 0}}}, {impl.Triangle{}, nil, [][2]int{{0, 0}, {1, 0}}},
		// Corners that are clamped first: the border runs from 100000, 0 to 0, 100000, wherever the corners are beyond it.
		{flatTriangle([2]int{0, 0}, [2]int{400000, 0}, [2]int{0, 100001}), [][2]int{{0, 0}, {99999, 0}, {0, 99999}, {49999, 50000}, {1, 99998}}, [][2]int{{50000, 50000}, {100000, 0}, {0, 100000}, {1, 99999}, {60000, 50000}, {100001, 0}}},
		{flatTriangle([2]int{math.MinInt, math.MinInt}, [2]int{math.MaxInt, math.MinInt}, [2]int{math.MinInt, math.MaxInt}), [][2]int{{-100000, -100000}, {99999, -100000}, {-100000, 99999}, {0, -1}, {-50000, 49999}}, [][2]int{{0, 0}, {1, -1}, {100000, -100000}, {-100000, 100000}, {-100001, -100000}, {-100000, -100001}, {-100001, -100001}}},
		{flatTriangle([2]int{100000, 3}, [2]int{100005, 50}, [2]int{100009, 7}), nil, [][2]int{{100000, 3}, {100000, 20}, {100001, 10}, {100005, 20}}},
	}
	for _, c := range cases {
		for _, x := range inEveryOrder(c.x) {
			for _, s := range c.inside {
				if !impl.Covers(x, s[0], s[1]) {
					t.Errorf("%v does not cover %v", x.P, s)
				}
			}
			for _, s := range c.outside {
				if impl.Covers(x, s[0], s[1]) {
					t.Errorf("%v covers %v", x.P, s)
				}
			}
		}
	}
}

// The edges run from 0, 0 in all directions; with each of them, the triangle lies on its right-hand side as Y goes down.
func TestP15CoversEachKindOfEdge(t *testing.T) {
	cases := []struct {
		dx, dy    int
		inclusive bool
	}{
		{1, 0, true}, {-1, 0, false}, {0, 1, false}, {0, -1, true}, {1, 1, false}, {-1, 1, false}, {1, -1, true}, {-1, -1, true}, {7, 1, false}, {-7, 1, false}, {7, -1, true}, {-7, -1, true}, {1, 7, false}, {-1, 7, false}, {1, -7, true}, {-1, -7, true},
	}
	for _, c := range cases {
		for _, length := range []int{2, 4, 10, 14284} {
			start, end := [2]int{0, 0}, [2]int{c.dx * length, c.dy * length}
			// To turn the edge by a quarter leads to the side of the positive area.
			third := [2]int{c.dx*length/2 - c.dy, c.dy*length/2 + c.dx}
			for _, x := range inEveryOrder(flatTriangle(start, end, third)) {
				for _, i := range []int{1, length / 2, length - 1} {
					if got := impl.Covers(x, c.dx*i, c.dy*i); got != c.inclusive {
						t.Errorf("%v covers %d, %d on its edge: %v", x.P, c.dx*i, c.dy*i, got)
					}
				}
			}
		}
	}
}

// These positions are so far away that products with them would be those of a position inside, if they were computed.
func TestP15CoversNothingBeyondTheScreen(t *testing.T) {
	l := []impl.Triangle{documentTriangle(), widestTriangle(), flatTriangle([2]int{-16, -16}, [2]int{64, -32}, [2]int{0, 128}), flatTriangle([2]int{-1 << 16, -1 << 16}, [2]int{1 << 16, -1 << 15}, [2]int{0, 1 << 16})}
	for _, triangle := range l {
		for _, x := range inEveryOrder(triangle) {
			for _, s := range [][2]int{{1, 1}, {0, 0}, {2, 3}, {-10, -8}} {
				for shift := 17; shift < 64; shift++ {
					far := 1 << shift
					for _, n := range [][2]int{{far, 0}, {0, far}, {far, far}, {-far, 0}, {0, -far}, {-far, far}, {-far, -far}} {
						spot := [2]int{s[0] + n[0], s[1] + n[1]}
						if impl.Covers(x, spot[0], spot[1]) {
							t.Fatalf("%v covers %v", x.P, spot)
						}
						if z, ok := impl.DepthAt(withDepths(x, 1, 1, 1), spot[0], spot[1]); z != 0 || ok {
							t.Fatalf("%v has the depth %d, %v at %v", x.P, z, ok, spot)
						}
					}
				}
			}
		}
	}
}

func checkDepth(t *testing.T, x impl.Triangle, sx, sy int) {
	t.Helper()
	want, wantOk := wantDepth(x, sx, sy)
	for _, y := range inEveryOrder(x) {
		if got, ok := impl.DepthAt(y, sx, sy); got != want || ok != wantOk {
			t.Fatalf("DepthAt(%v, %d, %d) = %d, %v, not %d, %v", y.P, sx, sy, got, ok, want, wantOk)
		}
	}
}

func TestP15DepthAt(t *testing.T) {
	for _, x := range anyTriangles() {
		for _, s := range spotsAround(x) {
			checkDepth(t, x, s[0], s[1])
		}
		for _, n := range []int{-100001, -100000, 99999, 100000, 100001, math.MinInt, math.MaxInt} {
			checkDepth(t, x, n, -5)
			checkDepth(t, x, 7, n)
			checkDepth(t, x, n, n)
		}
	}
	for i, x := range smallTriangles(4) {
		x = withDepths(x, i%7-3, i%11-5, i%1001*1001-500500)
		for sx := -1; sx <= 4; sx++ {
			for sy := -1; sy <= 4; sy++ {
				if got, ok := impl.DepthAt(x, sx, sy); ok {
					if want, _ := wantDepth(x, sx, sy); got != want {
						t.Fatalf("DepthAt(%v, %d, %d) = %d, not %d", x.P, sx, sy, got, want)
					}
				}
			}
		}
	}
}

func TestP15DepthAtCases(t *testing.T) {
	x, wide, far, low, high := documentTriangle(), widestTriangle(), 1000000, math.MinInt, math.MaxInt
	cases := []struct {
		x      impl.Triangle
		sx, sy int
		want   int
	}{
		// The weights of the corners are 32, 16 and 16 of 64 at 2, 2, and 64, 0 and 0 at 0, 0.
		{withDepths(x, 9, 9, 9), 2, 2, 9}, {withDepths(x, 9, 9, 9), 0, 0, 9}, {withDepths(x, 9, 9, 9), 3, 4, 9}, {withDepths(x, -9, -9, -9), 3, 4, -9}, {withDepths(x, 0, 8, 16), 2, 2, 6}, {withDepths(x, 0, 8, 16), 7, 0, 7}, {withDepths(x, 0, 8, 16), 0, 7, 14}, {withDepths(x, 0, 8, 16), 3, 4, 11}, {withDepths(x, 5, 100, -100), 0, 0, 5}, {x, 2, 2, 0},
		{withDepths(x, 0, 1, 0), 2, 2, 0}, {withDepths(x, 0, 1, 0), 7, 0, 0}, {withDepths(x, 0, -1, 0), 2, 2, -1}, {withDepths(x, 0, -1, 0), 1, 0, -1}, {withDepths(x, 0, -1, 0), 0, 2, 0}, {withDepths(x, 0, 0, -1), 0, 2, -1}, {withDepths(x, -1, 0, 0), 0, 0, -1}, {withDepths(x, -1, 0, 0), 4, 3, -1}, {withDepths(x, 1, 0, 0), 4, 3, 0},
		{withDepths(x, -3, 5, -7), 2, 2, -2}, {withDepths(x, -3, 5, -7), 1, 2, -3}, {withDepths(x, -3, 5, -7), 1, 3, -4}, {withDepths(x, -3, 5, -7), 0, 3, -5}, {withDepths(x, 3, -5, 7), 1, 3, 3},
		// Depths beyond the range count as its ends.
		{withDepths(x, far+1, far+1, far+1), 2, 2, far}, {withDepths(x, far, far, far), 2, 2, far}, {withDepths(x, -far-1, -far-1, -far-1), 2, 2, -far}, {withDepths(x, high, high, high), 2, 2, far}, {withDepths(x, low, low, low), 2, 2, -far}, {withDepths(x, far+1, -far-1, 0), 2, 2, 250000}, {withDepths(x, high, low, 0), 2, 2, 250000}, {withDepths(x, 0, far-1, 0), 2, 2, 249999}, {withDepths(x, 1<<32, 0, 0), 2, 2, 500000},
		// The largest triangle with the greatest depths.
		{withDepths(wide, far, far, far), 0, -1, far}, {withDepths(wide, -far, -far, -far), 0, -1, -far}, {withDepths(wide, far, -far, -far), 0, -1, -999990}, {withDepths(wide, far, far, far), -100000, -100000, far}, {withDepths(wide, far, -far, 5), -100000, -100000, far}, {withDepths(wide, far, -far, -far), 99999, -100000, -999990}, {withDepths(wide, -far, far, -far), 99999, -100000, 999990}, {withDepths(wide, -far, -far, far), -100000, 99999, 999990}, {withDepths(wide, low, high, low), 99999, -100000, 999990},
		// Corners beyond the screen are clamped before the depths are weighed.
		{triangleOf(vec(0, 0, 0), vec(400000, 0, 100000), vec(0, 200000, 200000)), 10, 20, 50}, {triangleOf(vec(low, low, 0), vec(high, low, 200000), vec(low, high, 400000)), -99990, -99980, 50},
	}
	for _, c := range cases {
		for _, y := range inEveryOrder(c.x) {
			if got, ok := impl.DepthAt(y, c.sx, c.sy); got != c.want || !ok {
				t.Errorf("DepthAt(%v, %d, %d) = %d, %v, not %d", y.P, c.sx, c.sy, got, ok, c.want)
			}
		}
	}
	for _, s := range [][2]int{{8, 0}, {0, 8}, {4, 4}, {9, 9}, {-1, 0}, {0, -1}, {5, 4}, {100000, 0}, {100001, 1}, {1, -100001}, {low, 1}, {1, high}} {
		for _, y := range inEveryOrder(withDepths(x, 5, 6, 7)) {
			if got, ok := impl.DepthAt(y, s[0], s[1]); got != 0 || ok {
				t.Errorf("DepthAt(%v, %v) = %d, %v", y.P, s, got, ok)
			}
		}
	}
	for _, y := range []impl.Triangle{withDepths(flatTriangle([2]int{0, 0}, [2]int{4, 4}, [2]int{8, 8}), 5, 6, 7), triangleOf(vec(1, 1, 5), vec(1, 1, 6), vec(1, 1, 7)), triangleOf(vec(100000, 3, 1), vec(100005, 50, 2), vec(100009, 7, 3))} {
		for _, s := range spotsAround(y) {
			if got, ok := impl.DepthAt(y, s[0], s[1]); got != 0 || ok {
				t.Errorf("DepthAt(%v, %v) = %d, %v", y.P, s, got, ok)
			}
		}
	}
}

func TestP15TriangleBounds(t *testing.T) {
	for _, x := range append(anyTriangles(), smallTriangles(3)...) {
		p := clampedCorners(x)
		lo := vecOf(func(k int) int { return min(parts(p[0])[k], parts(p[1])[k], parts(p[2])[k]) })
		hi := vecOf(func(k int) int { return max(parts(p[0])[k], parts(p[1])[k], parts(p[2])[k]) })
		for _, y := range inEveryOrder(x) {
			if got := impl.TriangleBounds(y); got != box(lo, hi) || !impl.IsValidBox(got) {
				t.Errorf("TriangleBounds(%v) = %v, not %v", y.P, got, box(lo, hi))
			}
		}
	}
	low, high, e, far := math.MinInt, math.MaxInt, 100000, 1000000
	cases := []struct {
		x    impl.Triangle
		want impl.Box
	}{
		{documentTriangle(), box(vec(0, 0, 0), vec(8, 8, 0))}, {impl.Triangle{}, impl.Box{}}, {triangleOf(vec(1, 2, 3), vec(1, 2, 3), vec(1, 2, 3)), box(vec(1, 2, 3), vec(1, 2, 3))}, {triangleOf(vec(5, -1, 9), vec(-3, 4, 0), vec(2, 8, -6)), box(vec(-3, -1, -6), vec(5, 8, 9))}, {triangleOf(vec(0, 0, 7), vec(4, 4, 9), vec(8, 8, 8)), box(vec(0, 0, 7), vec(8, 8, 9))},
		// X and Y end at 100000, but Z at 1000000.
		{triangleOf(vec(e, e, e), vec(e+1, e+1, e+1), vec(0, 0, 0)), box(vec(0, 0, 0), vec(e, e, e+1))}, {triangleOf(vec(-e, -e, -e), vec(-e-1, -e-1, -e-1), vec(0, 0, 0)), box(vec(-e, -e, -e-1), vec(0, 0, 0))}, {triangleOf(vec(far, -far, far), vec(far, -far, far), vec(far, -far, far)), box(vec(e, -e, far), vec(e, -e, far))}, {triangleOf(vec(far+1, 0, far+1), vec(0, -far-1, -far-1), vec(0, 0, 0)), box(vec(0, -e, -far), vec(e, 0, far))}, {triangleOf(vec(low, low, low), vec(high, high, high), vec(0, 0, 0)), box(vec(-e, -e, -far), vec(e, e, far))}, {triangleOf(vec(high, low, low), vec(high, low, low), vec(high, low, low)), box(vec(e, -e, -far), vec(e, -e, -far))},
	}
	for _, c := range cases {
		for _, y := range inEveryOrder(c.x) {
			if got := impl.TriangleBounds(y); got != c.want {
				t.Errorf("TriangleBounds(%v) = %v, not %v", y.P, got, c.want)
			}
		}
	}
}

// Every covered position lies within the bounds, with its depth.
func TestP15TriangleBoundsHoldWhatIsCovered(t *testing.T) {
	for i, x := range append(anyTriangles(), smallTriangles(3)...) {
		if i%2 == 0 {
			x = impl.FlipTriangle(x)
		}
		for _, s := range spotsAround(x) {
			if z, ok := impl.DepthAt(x, s[0], s[1]); ok && !impl.BoxContains(impl.TriangleBounds(x), vec(s[0], s[1], z)) {
				t.Errorf("%v covers %v with the depth %d, which is not in its bounds", x.P, s, z)
			}
		}
	}
}

func TestP15SameTriangle(t *testing.T) {
	for _, x := range anyTriangles() {
		if !impl.SameTriangle(x, triangleOf(x.P[0], x.P[1], x.P[2])) {
			t.Errorf("%v is not the same as itself", x.P)
		}
		for k := range 3 {
			for component := range 3 {
				n := parts(x.P[k])[component]
				// Sums beyond the range of int wrap around, and differ, too.
				for _, other := range []int{n + 1, n - 1, n + 1000000, -n - 1, n + 1<<32, n + math.MinInt, ^n} {
					y := withPart(x, k, component, other)
					if impl.SameTriangle(x, y) || impl.SameTriangle(y, x) {
						t.Errorf("%v is the same as %v", x.P, y.P)
					}
				}
			}
		}
	}
	l := smallTriangles(2)
	for i, x := range l {
		for j, y := range l {
			if got := impl.SameTriangle(x, y); got != (i == j) {
				t.Errorf("SameTriangle(%v, %v) = %v", x.P, y.P, got)
			}
		}
	}
}

// Components that differ are different, also where both would be clamped to the same value.
func TestP15SameTriangleBeyondTheRange(t *testing.T) {
	ranges := [][]int{{100000, 100001, 100002, 1000000, 1000001, 1 << 32, math.MaxInt - 1, math.MaxInt}, {-100000, -100001, -100002, -1000000, -1000001, -1 << 32, math.MinInt + 1, math.MinInt}}
	base := triangleOf(vec(1, 2, 3), vec(40, 5, 6), vec(7, 80, 9))
	for k := range 3 {
		for component := range 3 {
			for _, l := range ranges {
				for _, n := range l {
					for _, m := range l {
						if got := impl.SameTriangle(withPart(base, k, component, n), withPart(base, k, component, m)); got != (n == m) {
							t.Errorf("with %d and %d as component %d of corner %d, SameTriangle is %v", n, m, component, k, got)
						}
					}
				}
			}
		}
	}
}

// triangleText writes results of all functions of chapter 10 for x.
func triangleText(x impl.Triangle) string {
	var text strings.Builder
	fmt.Fprintln(&text, impl.SignedArea2(x), impl.FlipTriangle(x), impl.TriangleBounds(x), impl.SameTriangle(x, x), impl.SameTriangle(x, documentTriangle()))
	for _, s := range spotsAround(x) {
		z, ok := impl.DepthAt(x, s[0], s[1])
		fmt.Fprintln(&text, impl.Covers(x, s[0], s[1]), z, ok)
	}
	return text.String()
}

func TestP15TriangleFunctionsChangeNothingAndRepeatTheirResults(t *testing.T) {
	l := anyTriangles()
	kept := slices.Clone(l)
	var want []string
	for _, x := range l {
		want = append(want, triangleText(x))
	}
	for range 2 {
		for k := len(l) - 1; k >= 0; k-- {
			if got := triangleText(l[k]); got != want[k] {
				t.Fatalf("%v has the results %s after %s", l[k].P, got, want[k])
			}
		}
	}
	if !slices.Equal(l, kept) {
		t.Error("a triangle was changed")
	}
}
