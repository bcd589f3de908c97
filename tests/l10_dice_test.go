package tests

import (
	"fmt"
	"math"
	"slices"
	"testing"

	"loop.example/g00809/impl"
)

func micropolygon(a, b, c impl.Vec, u, v, n int) impl.Micropolygon {
	return impl.Micropolygon{Triangle: triangleOf(a, b, c), U: u, V: v, N: n}
}

// flatPatch has the depth 9 everywhere. Its corners are pairs of X and Y.
func flatPatch(a, b, c, d [2]int) impl.Patch {
	return patch(vec(a[0], a[1], 9), vec(b[0], b[1], 9), vec(c[0], c[1], 9), vec(d[0], d[1], 9))
}

// withPatchDepths replaces the Z of each corner.
func withPatchDepths(p impl.Patch, a, b, c, d int) impl.Patch {
	for k, z := range []int{a, b, c, d} {
		p = withCornerComponent(p, k, 2, z)
	}
	return p
}

// sharpView projects each point to its X and Y plus 16, and hides what is nearer than near.
func sharpView(near int) impl.Camera {
	return camera(2, 2, 256, near, false, 0, 0)
}

// diceCameras lists cameras of both projections, with and without a lens.
func diceCameras() []impl.Camera {
	var l []impl.Camera
	for _, c := range append(sharpCameras(), documentCamera(), greatestCamera(), camera(5, 6, 256, 30, false, 64, 2000)) {
		l = append(l, withDeep(c)...)
	}
	return l
}

// facingPatches lists patches that c sees in whole, in part, or not at all.
func facingPatches(c impl.Camera) []impl.Patch {
	depth := func(n int) int { return within(c.Near+n, -1000000, 1000000) }
	slanted := patch(vec(0, 0, depth(0)), vec(40, -3, depth(10)), vec(5, 50, depth(100)), vec(61, 47, depth(7)))
	turned := patch(vec(30, 31, depth(300)), vec(-90, 2, depth(3)), vec(7, -64, depth(0)), vec(-33, -71, depth(999)))
	far := patch(vec(-1000000, 1000000, depth(0)), vec(1000000, -999999, 1000000), vec(77777, 1000000, depth(5)), vec(-123456, -654321, depth(50000)))
	l := []impl.Patch{slanted, turned, far, withPatchDepths(slanted, c.Near, c.Near, c.Near, c.Near), withPatchDepths(turned, 1000000, 1000000, 1000000, 1000000), withPatchDepths(slanted, c.Near-1, c.Near-1, c.Near-1, c.Near-1)}
	for k := range 4 {
		l = append(l, withCornerComponent(slanted, k, 2, c.Near-1), withCornerComponent(turned, k, 2, depth(-300*k-100)))
	}
	l = append(l, withPatchDepths(turned, depth(-50), depth(60), depth(-70), depth(80)), withPatchDepths(turned, depth(90), depth(40), depth(-40), depth(-41)))
	return append(append(l, fewPatches()...), beyondPatch())
}

// diceLens lists lens positions of both signs at their limits and within them, and such beyond the limits in the last four places.
func diceLens() [][2]int {
	return [][2]int{{0, 0}, {16, -16}, {-16, 16}, {1, 15}, {-7, -16}, {5, 0}, {0, -1}, {-15, 16}, {17, 0}, {0, -17}, {-17, 16}, {3, 17}}
}

// gridPoint is the projection of a point of a grid, if there is one.
type gridPoint struct {
	at impl.Vec
	ok bool
}

// wantGrid lists the rows of the points of an n x n grid, without the program's own functions.
func wantGrid(c impl.Camera, p impl.Patch, n, lensX, lensY int) [][]gridPoint {
	var rows [][]gridPoint
	for j := range n + 1 {
		var row []gridPoint
		for i := range n + 1 {
			at, ok := wantProject(c, wantPoint(p, i, j, n), lensX, lensY)
			row = append(row, gridPoint{at, ok})
		}
		rows = append(rows, row)
	}
	return rows
}

// wantCell follows the document for one cell of these rows.
func wantCell(rows [][]gridPoint, u, v int) []impl.Micropolygon {
	a, b, d, e := rows[v][u], rows[v][u+1], rows[v+1][u], rows[v+1][u+1]
	if !a.ok || !b.ok || !d.ok || !e.ok {
		return nil
	}
	n := len(rows) - 1
	return []impl.Micropolygon{micropolygon(a.at, b.at, d.at, u, v, n), micropolygon(b.at, e.at, d.at, u, v, n)}
}

// wantPart picks the cells of the grid that lie in q, in the order of the grid. It wants a q that is valid and an n that is a multiple of its N.
func wantPart(rows [][]gridPoint, q impl.SubPatch) []impl.Micropolygon {
	var l []impl.Micropolygon
	n := len(rows) - 1
	for v := range n {
		for u := range n {
			if u*q.N/n == q.U && v*q.N/n == q.V {
				l = append(l, wantCell(rows, u, v)...)
			}
		}
	}
	return l
}

// wantRate compares all pairs of adjacent points of each grid.
func wantRate(c impl.Camera, p impl.Patch, most int) int {
	if !wantValidCamera(c) || !wantValidPatch(p) || most < 1 || most > 1000 {
		return 0
	}
	for _, n := range []int{1, 2, 4} {
		rows, acceptable := wantGrid(c, p, n, 0, 0), true
		for j, row := range rows {
			for i, point := range row {
				acceptable = acceptable && point.ok
				if i < n {
					acceptable = acceptable && wantNear(point.at, row[i+1].at, most)
				}
				if j < n {
					acceptable = acceptable && wantNear(point.at, rows[j+1][i].at, most)
				}
			}
		}
		if acceptable {
			return n
		}
	}
	return 8
}

func wantNear(a, b impl.Vec, most int) bool {
	return max(a.X, b.X)-min(a.X, b.X) <= most && max(a.Y, b.Y)-min(a.Y, b.Y) <= most
}

func equalDiced(a, b []impl.Micropolygon) bool {
	if len(a) != len(b) {
		return false
	}
	for k := range a {
		if a[k] != b[k] {
			return false
		}
	}
	return true
}

// wantDiced names what was diced by the words, which are written only where they are needed.
func wantDiced(t *testing.T, got, want []impl.Micropolygon, words ...any) {
	t.Helper()
	if !equalDiced(got, want) {
		t.Fatalf("%+v: %v, not %v", words, got, want)
	}
}

func wantNotDiced(t *testing.T, got []impl.Micropolygon, words ...any) {
	t.Helper()
	if len(got) != 0 {
		t.Fatalf("%+v: %d micropolygons, not none", words, len(got))
	}
}

// inOrder lists the micropolygons of several lists in the order of V and then of U; the two of a cell keep their order.
func inOrder(lists ...[]impl.Micropolygon) []impl.Micropolygon {
	l := slices.Concat(lists...)
	slices.SortStableFunc(l, func(a, b impl.Micropolygon) int {
		if a.V != b.V {
			return a.V - b.V
		}
		return a.U - b.U
	})
	return l
}

// diceText names a call with these arguments.
func diceText(name string, c impl.Camera, p impl.Patch, arguments ...any) string {
	return fmt.Sprintf("%s of %+v by %+v with %v", name, p.Corners, c, arguments)
}

func TestP3QuartersAreDicedAsThePatch(t *testing.T) {
	seen := 0
	for _, c := range diceCameras() {
		for _, p := range facingPatches(c) {
			for _, lens := range diceLens() {
				for _, n := range []int{2, 4, 6, 8} {
					var quarters [][]impl.Micropolygon
					for _, q := range impl.SplitSubPatch(sub(0, 0, 1)) {
						quarters = append(quarters, impl.DiceSubPatch(c, p, q, n, lens[0], lens[1]))
					}
					whole := impl.DicePatch(c, p, n, lens[0], lens[1])
					wantDiced(t, inOrder(quarters...), whole, "the four quarters", c, p, n, lens)
					seen += len(whole)
				}
			}
		}
	}
	if seen < 100000 {
		t.Errorf("only %d micropolygons were compared", seen)
	}
}

func TestP3ThePatchIsThePartWithNOne(t *testing.T) {
	for _, c := range diceCameras() {
		for _, p := range facingPatches(c) {
			for _, lens := range diceLens() {
				for n := -1; n <= 10; n++ {
					wantDiced(t, impl.DiceSubPatch(c, p, sub(0, 0, 1), n, lens[0], lens[1]), impl.DicePatch(c, p, n, lens[0], lens[1]), "the patch as a part", c, p, n, lens)
				}
			}
		}
	}
}

func TestP3QuartersOfPartsAreDicedAsTheParts(t *testing.T) {
	for i, c := range diceCameras() {
		for k, p := range facingPatches(c) {
			lens := diceLens()[(i+k)%8]
			for _, n := range []int{4, 8} {
				for _, q := range slices.Concat(allSubPatches(1), allSubPatches(2), allSubPatches(4)) {
					if 2*q.N > n {
						continue
					}
					var quarters [][]impl.Micropolygon
					for _, quarter := range impl.SplitSubPatch(q) {
						quarters = append(quarters, impl.DiceSubPatch(c, p, quarter, n, lens[0], lens[1]))
					}
					wantDiced(t, inOrder(quarters...), impl.DiceSubPatch(c, p, q, n, lens[0], lens[1]), "the quarters of a part", c, p, q, n, lens)
				}
			}
		}
	}
}

func TestP3AllPartsAreDicedAsThePatch(t *testing.T) {
	for i, c := range diceCameras() {
		for k, p := range facingPatches(c) {
			lens := diceLens()[(3*i+k)%8]
			for _, side := range []int{1, 2, 4, 8} {
				for n := side; n <= 8; n += side {
					var l [][]impl.Micropolygon
					for _, q := range allSubPatches(side) {
						l = append(l, impl.DiceSubPatch(c, p, q, n, lens[0], lens[1]))
					}
					wantDiced(t, inOrder(l...), impl.DicePatch(c, p, n, lens[0], lens[1]), "all parts", c, p, side, n, lens)
				}
			}
		}
	}
}

// A part that is diced at the rate of its own N is a single cell.
func TestP3SmallestPartsAreCells(t *testing.T) {
	for _, c := range diceCameras() {
		for _, p := range facingPatches(c) {
			for _, n := range []int{1, 2, 4, 8} {
				for _, q := range allSubPatches(n) {
					wantDiced(t, impl.DiceSubPatch(c, p, q, n, 3, -4), impl.DiceCell(c, p, q.U, q.V, n, 3, -4), "the part of a cell", c, p, q)
				}
			}
		}
	}
}

// dicedPoints reads the projected grid points back from the micropolygons, and wants the same point in each micropolygon that has it.
func dicedPoints(t *testing.T, l []impl.Micropolygon) map[[2]int]impl.Vec {
	t.Helper()
	points := map[[2]int]impl.Vec{}
	for k, m := range l {
		places := [3][2]int{{m.U, m.V}, {m.U + 1, m.V}, {m.U, m.V + 1}}
		if k%2 == 1 {
			places = [3][2]int{{m.U + 1, m.V}, {m.U + 1, m.V + 1}, {m.U, m.V + 1}}
		}
		for corner, place := range places {
			point, known := points[place]
			if known && point != m.Triangle.P[corner] {
				t.Fatalf("the grid point %v is both %v and %v", place, point, m.Triangle.P[corner])
			}
			points[place] = m.Triangle.P[corner]
		}
	}
	return points
}

// neighborPatch runs from a to b along its edge k; its other two corners lie elsewhere at depths that c sees.
func neighborPatch(c impl.Camera, k int, a, b impl.Vec) impl.Patch {
	ends := edgeEnds()[k]
	p := patch(vec(5, -6, c.Near), vec(-800, 900, 1000000), vec(11, 12, c.Near), vec(-1000000, 3, 1000000))
	return withCorner(withCorner(p, ends[0], a), ends[1], b)
}

func TestP3AdjacentPatchesHaveNoCracks(t *testing.T) {
	compared := 0
	for i, c := range diceCameras() {
		for number, p := range facingPatches(c) {
			lens := diceLens()[(5*i+number)%8]
			for _, n := range []int{1, 3, 8} {
				points := dicedPoints(t, impl.DicePatch(c, p, n, lens[0], lens[1]))
				for k, ends := range edgeEnds() {
					a, b := p.Corners[ends[0]], p.Corners[ends[1]]
					for other := range 4 {
						same := dicedPoints(t, impl.DicePatch(c, neighborPatch(c, other, a, b), n, lens[0], lens[1]))
						reversed := dicedPoints(t, impl.DicePatch(c, neighborPatch(c, other, b, a), n, lens[0], lens[1]))
						for place := range n + 1 {
							column, row := borderPoint(k, place, n)
							point, known := points[[2]int{column, row}]
							column, row = borderPoint(other, place, n)
							forth, isForth := same[[2]int{column, row}]
							column, row = borderPoint(other, n-place, n)
							back, isBack := reversed[[2]int{column, row}]
							if known && isForth && forth != point || known && isBack && back != point {
								t.Fatalf("%s: point %d of edge %d is %v, but %v and %v in patches beside it", diceText("the patch", c, p, n, lens), place, k, point, forth, back)
							}
							if known && isForth && isBack {
								compared++
							}
						}
					}
				}
			}
		}
	}
	if compared < 10000 {
		t.Errorf("only %d points were compared", compared)
	}
}

// waveMesh is a mesh of side x side faces whose vertices differ from those of a regular grid, in the depth as well.
func waveMesh(side int) impl.Mesh {
	var m impl.Mesh
	for j := range side + 1 {
		for i := range side + 1 {
			m.Vertices = append(m.Vertices, vec(24*i+(7*i+5*j)%9, 24*j+(3*i+11*j)%8, 20+(5*i+3*j)%13))
		}
	}
	for j := range side {
		for i := range side {
			at := j*(side+1) + i
			m.Faces = append(m.Faces, []int{at, at + 1, at + side + 2, at + side + 1})
		}
	}
	return m
}

// Each position inside the mesh is covered by one micropolygon, so that there is neither a crack nor an overlap.
func TestP3DicedMeshesCoverEveryPositionOnce(t *testing.T) {
	c := camera(4, 4, 256, 1, false, 64, 25)
	for _, lens := range [][2]int{{0, 0}, {16, -16}, {-5, 11}} {
		for n := 1; n <= 8; n++ {
			counts := map[[2]int]int{}
			for _, p := range impl.FacePatches(waveMesh(3)) {
				for _, m := range impl.DicePatch(c, p, n, lens[0], lens[1]) {
					countCovered(t, m.Triangle, counts)
				}
			}
			// The border of the mesh lies within 13 positions of that of the regular grid.
			for x := 32 + 13; x < 32+72-13; x++ {
				for y := 32 + 13; y < 32+72-13; y++ {
					if count := counts[[2]int{x, y}]; count != 1 {
						t.Fatalf("on grids of %d, seen from %v, %d, %d is covered %d times", n, lens, x, y, count)
					}
				}
			}
		}
	}
}

// countCovered counts the positions that x covers. It wants that x is not turned over.
func countCovered(t *testing.T, x impl.Triangle, counts map[[2]int]int) {
	t.Helper()
	if impl.SignedArea2(x) <= 0 {
		t.Fatalf("%v is turned over", x)
	}
	a, b, c := x.P[0], x.P[1], x.P[2]
	for column := min(a.X, b.X, c.X); column <= max(a.X, b.X, c.X); column++ {
		for row := min(a.Y, b.Y, c.Y); row <= max(a.Y, b.Y, c.Y); row++ {
			if impl.Covers(x, column, row) {
				counts[[2]int{column, row}]++
			}
		}
	}
}

func TestP3DicedPointsAreTheSameOnFinerGrids(t *testing.T) {
	for i, c := range diceCameras() {
		for k, p := range facingPatches(c) {
			lens := diceLens()[(7*i+k)%8]
			for n := 1; n <= 4; n++ {
				for factor := 2; factor*n <= 8; factor++ {
					coarse, fine := dicedPoints(t, impl.DicePatch(c, p, n, lens[0], lens[1])), dicedPoints(t, impl.DicePatch(c, p, factor*n, lens[0], lens[1]))
					for place, point := range coarse {
						if other, ok := fine[[2]int{factor * place[0], factor * place[1]}]; ok && other != point {
							t.Fatalf("%s: point %v is %v, but %v on a grid of %d", diceText("the patch", c, p, n, lens), place, point, other, factor*n)
						}
					}
				}
			}
		}
	}
}

func TestP15MaxDiceRate(t *testing.T) {
	if impl.MaxDiceRate != 8 {
		t.Errorf("MaxDiceRate is %d", impl.MaxDiceRate)
	}
}

// checkDicing compares every cell of the n x n grid, all of them together, and all parts with the document.
func checkDicing(t *testing.T, c impl.Camera, p impl.Patch, n, lensX, lensY int) {
	t.Helper()
	rows := wantGrid(c, p, n, lensX, lensY)
	for v := range n {
		for u := range n {
			wantDiced(t, impl.DiceCell(c, p, u, v, n, lensX, lensY), wantCell(rows, u, v), "the cell", c, p, u, v, n, lensX, lensY)
		}
	}
	wantDiced(t, impl.DicePatch(c, p, n, lensX, lensY), wantPart(rows, sub(0, 0, 1)), "the patch", c, p, n, lensX, lensY)
	for _, side := range []int{1, 2, 4, 8, 16} {
		for _, q := range allSubPatches(side) {
			var want []impl.Micropolygon
			if n%side == 0 {
				want = wantPart(rows, q)
			}
			wantDiced(t, impl.DiceSubPatch(c, p, q, n, lensX, lensY), want, "the part", c, p, q, n, lensX, lensY)
		}
	}
}

func TestP15DicingFunctions(t *testing.T) {
	lens := diceLens()
	for i, c := range diceCameras() {
		for k, p := range facingPatches(c) {
			for n := 1; n <= 8; n++ {
				position := lens[(i+2*k+n)%len(lens)]
				checkDicing(t, c, p, n, position[0], position[1])
			}
		}
	}
}

func TestP15DicingOfAllPatches(t *testing.T) {
	cameras := []impl.Camera{documentCamera(), camera(5, 6, 256, 30, true, 64, 2000), camera(3, 4, 20000, 500000, true, 5, 7)}
	for i, p := range anyPatches() {
		checkDicing(t, cameras[i%3], p, 1+i%8, i%33-16, i*7%33-16)
	}
}

func TestP15DicingByAllCameras(t *testing.T) {
	for i, c := range anyCameras() {
		p := withPatchDepths(mixedPatch(), 1000000, 999999, 500, 1000000-i%3)
		checkDicing(t, c, p, 1+i%3, 1, -2)
	}
}

// The cells of the finest grid, of such with a rate that is no power of two, and of all between.
func TestP15DiceCell(t *testing.T) {
	cameras := diceCameras()
	for n := 1; n <= 64; n++ {
		for k := range 6 {
			c := cameras[(n+5*k)%len(cameras)]
			patches, lens := facingPatches(c), diceLens()[(n+k)%8]
			p := patches[(n+7*k)%len(patches)]
			for _, v := range []int{0, 1, n / 2, n - 2, n - 1} {
				for _, u := range []int{0, n / 3, n - 1} {
					if v < 0 || v >= n {
						continue
					}
					var rows [2][2]gridPoint
					for place := range 4 {
						at, ok := wantProject(c, wantPoint(p, u+place%2, v+place/2, n), lens[0], lens[1])
						rows[place/2][place%2] = gridPoint{at, ok}
					}
					want := wantCell([][]gridPoint{rows[0][:], rows[1][:]}, 0, 0)
					for m := range want {
						want[m].U, want[m].V, want[m].N = u, v, n
					}
					wantDiced(t, impl.DiceCell(c, p, u, v, n, lens[0], lens[1]), want, "the cell", c, p, u, v, n, lens)
				}
			}
		}
	}
}

func TestP15DiceCellCases(t *testing.T) {
	square := flatPatch([2]int{0, 0}, [2]int{8, 0}, [2]int{0, 8}, [2]int{8, 8})
	slanted := patch(vec(0, 0, 104), vec(8, 0, 104), vec(0, 8, 96), vec(8, 8, 96))
	skew := patch(vec(0, 0, 10), vec(5, 0, 20), vec(0, 7, 30), vec(-4, -9, 40))
	cases := []struct {
		c            impl.Camera
		p            impl.Patch
		u, v, n      int
		lensX, lensY int
		a, b, d, e   impl.Vec
	}{
		{sharpView(1), square, 0, 0, 1, 0, 0, vec(16, 16, 9), vec(24, 16, 9), vec(16, 24, 9), vec(24, 24, 9)},
		{sharpView(9), square, 0, 0, 2, 16, 16, vec(16, 16, 9), vec(20, 16, 9), vec(16, 20, 9), vec(20, 20, 9)},
		{sharpView(1), square, 1, 0, 2, -16, 16, vec(20, 16, 9), vec(24, 16, 9), vec(20, 20, 9), vec(24, 20, 9)},
		{sharpView(1), square, 0, 1, 2, 16, -16, vec(16, 20, 9), vec(20, 20, 9), vec(16, 24, 9), vec(20, 24, 9)},
		{sharpView(1), square, 1, 1, 2, -16, -16, vec(20, 20, 9), vec(24, 20, 9), vec(20, 24, 9), vec(24, 24, 9)},
		// The points at 8/3 and 16/3 are rounded down.
		{sharpView(1), square, 1, 2, 3, 0, 0, vec(18, 21, 9), vec(21, 21, 9), vec(18, 24, 9), vec(21, 24, 9)},
		{sharpView(1), square, 0, 0, 64, 0, 0, vec(16, 16, 9), vec(16, 16, 9), vec(16, 16, 9), vec(16, 16, 9)},
		{sharpView(1), square, 63, 7, 64, 0, 0, vec(23, 16, 9), vec(24, 16, 9), vec(23, 17, 9), vec(24, 17, 9)},
		{sharpView(1), square, 7, 63, 64, 0, 0, vec(16, 23, 9), vec(17, 23, 9), vec(16, 24, 9), vec(17, 24, 9)},
		{sharpView(1), square, 63, 63, 64, 0, 0, vec(23, 23, 9), vec(24, 23, 9), vec(23, 24, 9), vec(24, 24, 9)},
		// Neither the order of the corners nor that of the triangles depends on their orientation.
		{sharpView(1), skew, 0, 0, 1, 0, 0, vec(16, 16, 10), vec(21, 16, 20), vec(16, 23, 30), vec(12, 7, 40)},
		{sharpView(1), skew, 1, 0, 2, 0, 0, vec(18, 16, 15), vec(21, 16, 20), vec(16, 15, 25), vec(16, 11, 30)},
		{sharpView(1), skew, 0, 1, 2, 0, 0, vec(16, 19, 20), vec(16, 15, 25), vec(16, 23, 30), vec(14, 15, 35)},
		// Behind the focal plane, points shift by the lens position; in front of it, by its opposite.
		{camera(2, 4, 256, 1, false, 64, 100), slanted, 0, 0, 1, 16, -16, vec(17, 31, 104), vec(25, 31, 104), vec(15, 41, 96), vec(23, 41, 96)},
		{camera(2, 4, 256, 1, false, 64, 100), slanted, 0, 0, 1, -16, 16, vec(15, 33, 104), vec(23, 33, 104), vec(17, 39, 96), vec(25, 39, 96)},
		{camera(2, 4, 256, 1, false, 64, 100), slanted, 0, 0, 2, 16, 0, vec(17, 32, 104), vec(21, 32, 104), vec(16, 36, 100), vec(20, 36, 100)},
		{camera(2, 4, 256, 1, true, 0, 0), slanted, 0, 1, 2, 0, 0, vec(16, 42, 100), vec(26, 42, 100), vec(16, 53, 96), vec(26, 53, 96)},
	}
	for _, x := range cases {
		got := impl.DiceCell(x.c, x.p, x.u, x.v, x.n, x.lensX, x.lensY)
		want := []impl.Micropolygon{micropolygon(x.a, x.b, x.d, x.u, x.v, x.n), micropolygon(x.b, x.e, x.d, x.u, x.v, x.n)}
		if !equalDiced(got, want) {
			t.Errorf("%s is %v, not %v", diceText("the cell", x.c, x.p, x.u, x.v, x.n, x.lensX, x.lensY), got, want)
		}
	}
}

// Corners beyond the range count as the nearest ones in it, as EvalPatch has them.
func TestP15DicingClampsCorners(t *testing.T) {
	c := sharpView(1)
	far := patch(vec(math.MinInt, 0, math.MaxInt), vec(math.MaxInt, -1000001, 1000001), vec(1000001, math.MaxInt, 1000000), vec(-1000001, math.MinInt, 5))
	a, b, d, e := vec(-100000, 16, 1000000), vec(100000, -100000, 1000000), vec(100000, 100000, 1000000), vec(-100000, -100000, 5)
	want := []impl.Micropolygon{micropolygon(a, b, d, 0, 0, 1), micropolygon(b, e, d, 0, 0, 1)}
	wantDiced(t, impl.DiceCell(c, far, 0, 0, 1, 0, 0), want, "the cell")
	wantDiced(t, impl.DicePatch(c, far, 1, 0, 0), want, "the patch")
	wantDiced(t, impl.DiceSubPatch(c, far, sub(0, 0, 1), 1, 0, 0), want, "the part")
	wantNotDiced(t, impl.DicePatch(c, withCornerComponent(far, 3, 2, math.MinInt), 1, 0, 0), "a patch with a hidden corner")
	for n := 1; n <= 8; n++ {
		wantDiced(t, impl.DicePatch(c, beyondPatch(), n, 0, 0), impl.DicePatch(c, widePatch(), n, 0, 0), "the patch beyond the range")
	}
}

func TestP15DiceCellRejectsGrids(t *testing.T) {
	c, p := sharpView(1), flatPatch([2]int{0, 0}, [2]int{64, 0}, [2]int{0, 64}, [2]int{64, 64})
	for _, n := range append(extremeInts(), 0, -1, -64, 65, 66, 128, 1<<32+1, 1<<32+64) {
		if n >= 1 && n <= 64 {
			continue
		}
		for _, place := range [][2]int{{0, 0}, {-1, -1}, {1, 0}, {0, 1}, {n - 1, n - 1}, {n, 0}} {
			wantNotDiced(t, impl.DiceCell(c, p, place[0], place[1], n, 0, 0), "the cell of the grid", place, n)
		}
	}
	for _, n := range []int{1, 2, 3, 8, 63, 64} {
		for _, inside := range [][2]int{{0, 0}, {n - 1, 0}, {0, n - 1}, {n - 1, n - 1}} {
			if len(impl.DiceCell(c, p, inside[0], inside[1], n, 0, 0)) != 2 {
				t.Errorf("the cell %v of %d is missing", inside, n)
			}
		}
		for _, k := range append(extremeInts(), -1, -2, -n, n, n+1, 2*n, 1<<32, 1<<32+n-1, math.MinInt+n-1) {
			if k >= 0 && k < n {
				continue
			}
			for _, other := range []int{0, n / 2, n - 1, k} {
				wantNotDiced(t, impl.DiceCell(c, p, k, other, n, 0, 0), "the cell of the grid", k, other, n)
				wantNotDiced(t, impl.DiceCell(c, p, other, k, n, 0, 0), "the cell of the grid", other, k, n)
			}
		}
	}
}

// One hidden point is enough, whichever of the four it is.
func TestP15DiceCellRejectsHiddenPoints(t *testing.T) {
	p := withPatchDepths(flatPatch([2]int{0, 0}, [2]int{8, 0}, [2]int{0, 8}, [2]int{8, 8}), 100, 100, 100, 100)
	for k := range 4 {
		for _, z := range []int{99, 0, -1, -1000000} {
			hidden := withCornerComponent(p, k, 2, z)
			for _, c := range withDeep(sharpView(100)) {
				wantNotDiced(t, impl.DiceCell(c, hidden, 0, 0, 1, 0, 0), "the cell", c, hidden)
			}
		}
		// The depths of the grid of 2 are 0 in the corner, 50 beside it, 75 in the center, and 100 in the others.
		u, v, hidden := k%2, k/2, withCornerComponent(p, k, 2, 0)
		for place := range 4 {
			isCorner, isOpposite := place == k, place == 3-k
			want := map[int]bool{1: !isCorner, 50: !isCorner, 51: isOpposite, 75: isOpposite, 76: false}
			for near, ok := range want {
				if got := impl.DiceCell(sharpView(near), hidden, place%2, place/2, 2, 0, 0); (len(got) == 2) != ok {
					t.Errorf("with the corner %d, %d hidden, the cell %d, %d has %d micropolygons in front of %d", u, v, place%2, place/2, len(got), near)
				}
			}
		}
	}
	all := withPatchDepths(p, 99, 99, 99, 99)
	wantNotDiced(t, impl.DiceCell(sharpView(100), all, 0, 0, 1, 0, 0), "a hidden cell")
	if len(impl.DiceCell(sharpView(99), all, 0, 0, 1, 0, 0)) != 2 {
		t.Error("a cell at the depth of Near is missing")
	}
}

func TestP15DicingRejectsLensPositions(t *testing.T) {
	p := withPatchDepths(mixedPatch(), 500, 600, 700, 800)
	for _, c := range []impl.Camera{sharpView(1), camera(5, 6, 256, 30, true, 64, 2000), camera(1, 1, 1, 1, false, 64, 0)} {
		for _, lens := range []int{-16, -15, -1, 0, 1, 15, 16} {
			if len(impl.DiceCell(c, p, 1, 1, 3, lens, -lens)) != 2 || len(impl.DicePatch(c, p, 3, -lens, lens)) != 18 || len(impl.DiceSubPatch(c, p, sub(1, 0, 2), 4, lens, lens)) != 8 {
				t.Errorf("micropolygons are missing at the lens position %d", lens)
			}
		}
		for _, lens := range append(extremeInts(), -17, 17, 33, -33, 1<<32, 1<<32+1, -1<<32, math.MinInt+16) {
			if lens >= -16 && lens <= 16 {
				continue
			}
			for _, position := range [][2]int{{lens, 0}, {0, lens}, {lens, lens}, {lens, 16}, {-16, lens}} {
				wantNotDiced(t, impl.DiceCell(c, p, 1, 1, 3, position[0], position[1]), "at the lens position", position)
				wantNotDiced(t, impl.DicePatch(c, p, 3, position[0], position[1]), "at the lens position", position)
				wantNotDiced(t, impl.DiceSubPatch(c, p, sub(1, 0, 2), 4, position[0], position[1]), "at the lens position", position)
			}
		}
	}
}

func TestP15DicingRejectsCameras(t *testing.T) {
	p := withPatchDepths(mixedPatch(), 1000000, 1000000, 1000000, 1000000)
	for _, c := range invalidCameras() {
		wantNotDiced(t, impl.DiceCell(c, p, 0, 0, 1, 0, 0), "by the camera", c)
		wantNotDiced(t, impl.DicePatch(c, p, 2, 0, 0), "by the camera", c)
		wantNotDiced(t, impl.DiceSubPatch(c, p, sub(0, 0, 1), 2, 0, 0), "by the camera", c)
		if rate := impl.DiceRate(c, p, 1000); rate != 0 {
			t.Errorf("%s has the rate %d", diceText("the patch", c, p), rate)
		}
	}
	for _, c := range validCameras() {
		if len(impl.DiceCell(c, p, 0, 0, 1, 0, 0)) != 2 || len(impl.DicePatch(c, p, 2, 0, 0)) != 8 || len(impl.DiceSubPatch(c, p, sub(0, 0, 1), 2, 0, 0)) != 8 || impl.DiceRate(c, p, 1000) == 0 {
			t.Errorf("%s has not all micropolygons, or no rate", diceText("the patch", c, p))
		}
	}
}

func TestP15DicePatchCases(t *testing.T) {
	p := flatPatch([2]int{0, 0}, [2]int{8, 0}, [2]int{0, 4}, [2]int{8, 4})
	at := func(x, y int) impl.Vec { return vec(16+x, 16+y, 9) }
	wantDiced(t, impl.DicePatch(sharpView(1), p, 1, 0, 0), []impl.Micropolygon{micropolygon(at(0, 0), at(8, 0), at(0, 4), 0, 0, 1), micropolygon(at(8, 0), at(8, 4), at(0, 4), 0, 0, 1)}, "the patch")
	wantDiced(t, impl.DicePatch(sharpView(1), p, 2, 0, 0), []impl.Micropolygon{
		micropolygon(at(0, 0), at(4, 0), at(0, 2), 0, 0, 2), micropolygon(at(4, 0), at(4, 2), at(0, 2), 0, 0, 2), micropolygon(at(4, 0), at(8, 0), at(4, 2), 1, 0, 2), micropolygon(at(8, 0), at(8, 2), at(4, 2), 1, 0, 2),
		micropolygon(at(0, 2), at(4, 2), at(0, 4), 0, 1, 2), micropolygon(at(4, 2), at(4, 4), at(0, 4), 0, 1, 2), micropolygon(at(4, 2), at(8, 2), at(4, 4), 1, 1, 2), micropolygon(at(8, 2), at(8, 4), at(4, 4), 1, 1, 2),
	}, "the patch")
	for n := 1; n <= 8; n++ {
		l := impl.DicePatch(sharpView(1), p, n, 0, 0)
		if len(l) != 2*n*n {
			t.Fatalf("a grid of %d has %d micropolygons", n, len(l))
		}
		for k, m := range l {
			if m.U != k/2%n || m.V != k/2/n || m.N != n {
				t.Errorf("micropolygon %d of a grid of %d is that of the cell %d, %d of %d", k, n, m.U, m.V, m.N)
			}
		}
	}
}

func TestP15DicePatchRejectsRates(t *testing.T) {
	p := flatPatch([2]int{0, 0}, [2]int{64, 0}, [2]int{0, 64}, [2]int{64, 64})
	for _, n := range append(extremeInts(), 0, -1, -8, 9, 10, 16, 64, 1<<32+1, 1<<32+8) {
		if n < 1 || n > 8 {
			wantNotDiced(t, impl.DicePatch(sharpView(1), p, n, 0, 0), "the grid", n)
		}
	}
}

// cellsOf lists the cells of the micropolygons as U, V, without repetition.
func cellsOf(l []impl.Micropolygon) [][2]int {
	var cells [][2]int
	for _, m := range l {
		cells = append(cells, [2]int{m.U, m.V})
	}
	return slices.Compact(cells)
}

// Hidden cells add nothing, and the others remain.
func TestP15DicingLeavesOutHiddenCells(t *testing.T) {
	square := flatPatch([2]int{0, 0}, [2]int{8, 0}, [2]int{0, 8}, [2]int{8, 8})
	across, down, corner := withPatchDepths(square, 1, 9, 1, 9), withPatchDepths(square, 9, 9, 1, 1), withPatchDepths(square, 100, 100, 100, 36)
	cases := []struct {
		p     impl.Patch
		near  int
		q     impl.SubPatch
		n     int
		cells [][2]int
	}{
		// The depth of column i of 4 is 1 + 2 * i.
		{across, 1, sub(0, 0, 1), 2, [][2]int{{0, 0}, {1, 0}, {0, 1}, {1, 1}}}, {across, 2, sub(0, 0, 1), 2, [][2]int{{1, 0}, {1, 1}}}, {across, 5, sub(0, 0, 1), 2, [][2]int{{1, 0}, {1, 1}}}, {across, 6, sub(0, 0, 1), 2, nil},
		{across, 4, sub(0, 0, 1), 4, [][2]int{{2, 0}, {3, 0}, {2, 1}, {3, 1}, {2, 2}, {3, 2}, {2, 3}, {3, 3}}}, {across, 7, sub(0, 0, 1), 4, [][2]int{{3, 0}, {3, 1}, {3, 2}, {3, 3}}}, {across, 8, sub(0, 0, 1), 4, nil}, {across, 9, sub(0, 0, 1), 4, nil},
		{across, 3, sub(0, 0, 2), 4, [][2]int{{1, 0}, {1, 1}}}, {across, 3, sub(1, 0, 2), 4, [][2]int{{2, 0}, {3, 0}, {2, 1}, {3, 1}}}, {across, 7, sub(1, 1, 2), 4, [][2]int{{3, 2}, {3, 3}}}, {across, 7, sub(0, 1, 2), 4, nil}, {across, 8, sub(7, 3, 8), 8, [][2]int{{7, 3}}}, {across, 8, sub(6, 3, 8), 8, nil},
		// That of row j of 4 is 9 - 2 * j.
		{down, 5, sub(0, 0, 1), 2, [][2]int{{0, 0}, {1, 0}}}, {down, 6, sub(0, 0, 1), 4, [][2]int{{0, 0}, {1, 0}, {2, 0}, {3, 0}}}, {down, 8, sub(0, 0, 1), 4, nil}, {down, 3, sub(1, 1, 2), 4, [][2]int{{2, 2}, {3, 2}}}, {down, 3, sub(0, 0, 2), 4, [][2]int{{0, 0}, {1, 0}, {0, 1}, {1, 1}}},
		// On a grid of 8, the corner has the depth 36, two points beside it have 44, and one has 51.
		{corner, 37, sub(3, 3, 4), 8, [][2]int{{6, 6}, {7, 6}, {6, 7}}}, {corner, 44, sub(3, 3, 4), 8, [][2]int{{6, 6}, {7, 6}, {6, 7}}}, {corner, 45, sub(3, 3, 4), 8, [][2]int{{6, 6}}}, {corner, 51, sub(3, 3, 4), 8, [][2]int{{6, 6}}}, {corner, 52, sub(3, 3, 4), 8, nil}, {corner, 36, sub(1, 1, 2), 2, [][2]int{{1, 1}}}, {corner, 37, sub(0, 0, 1), 2, [][2]int{{0, 0}, {1, 0}, {0, 1}}},
	}
	for _, x := range cases {
		for _, c := range withDeep(sharpView(x.near)) {
			l := impl.DiceSubPatch(c, x.p, x.q, x.n, 0, 0)
			if got := cellsOf(l); !slices.Equal(got, x.cells) || len(l) != 2*len(x.cells) {
				t.Errorf("the part %v of a grid of %d in front of %d has the cells %v, not %v", x.q, x.n, x.near, got, x.cells)
			}
			if whole := impl.DicePatch(c, x.p, x.n, 0, 0); x.q.N == 1 && !equalDiced(whole, l) {
				t.Errorf("a grid of %d in front of %d is %v, not %v", x.n, x.near, whole, l)
			}
		}
	}
}

func TestP15DiceSubPatchCases(t *testing.T) {
	p := flatPatch([2]int{0, 0}, [2]int{8, 0}, [2]int{0, 8}, [2]int{8, 8})
	cases := []struct {
		q     impl.SubPatch
		n     int
		cells [][2]int
	}{
		{sub(0, 0, 1), 1, [][2]int{{0, 0}}}, {sub(0, 0, 1), 2, [][2]int{{0, 0}, {1, 0}, {0, 1}, {1, 1}}}, {sub(0, 0, 2), 2, [][2]int{{0, 0}}}, {sub(1, 0, 2), 2, [][2]int{{1, 0}}}, {sub(0, 1, 2), 2, [][2]int{{0, 1}}}, {sub(1, 1, 2), 2, [][2]int{{1, 1}}},
		{sub(0, 0, 2), 4, [][2]int{{0, 0}, {1, 0}, {0, 1}, {1, 1}}}, {sub(1, 0, 2), 4, [][2]int{{2, 0}, {3, 0}, {2, 1}, {3, 1}}}, {sub(0, 1, 2), 4, [][2]int{{0, 2}, {1, 2}, {0, 3}, {1, 3}}}, {sub(1, 1, 2), 4, [][2]int{{2, 2}, {3, 2}, {2, 3}, {3, 3}}},
		{sub(1, 0, 2), 6, [][2]int{{3, 0}, {4, 0}, {5, 0}, {3, 1}, {4, 1}, {5, 1}, {3, 2}, {4, 2}, {5, 2}}}, {sub(1, 2, 4), 8, [][2]int{{2, 4}, {3, 4}, {2, 5}, {3, 5}}}, {sub(3, 1, 4), 4, [][2]int{{3, 1}}}, {sub(7, 5, 8), 8, [][2]int{{7, 5}}}, {sub(0, 7, 8), 8, [][2]int{{0, 7}}},
		// The rate is no multiple of N, or beyond its range.
		{sub(0, 0, 2), 1, nil}, {sub(0, 0, 2), 3, nil}, {sub(1, 1, 2), 5, nil}, {sub(0, 0, 2), 7, nil}, {sub(0, 0, 4), 1, nil}, {sub(0, 0, 4), 2, nil}, {sub(0, 0, 4), 6, nil}, {sub(0, 0, 4), 7, nil}, {sub(0, 0, 8), 4, nil}, {sub(0, 0, 8), 7, nil}, {sub(0, 0, 16), 8, nil}, {sub(0, 0, 16), 4, nil}, {sub(0, 0, 64), 8, nil}, {sub(0, 0, 64), 1, nil},
		{sub(0, 0, 1), 0, nil}, {sub(0, 0, 2), 0, nil}, {sub(0, 0, 8), 0, nil}, {sub(0, 0, 1), 9, nil}, {sub(0, 0, 2), 10, nil}, {sub(0, 0, 4), 12, nil}, {sub(0, 0, 8), 16, nil}, {sub(0, 0, 16), 16, nil}, {sub(0, 0, 64), 64, nil}, {sub(0, 0, 64), 0, nil}, {sub(0, 0, 1), -1, nil}, {sub(0, 0, 2), -2, nil}, {sub(0, 0, 8), -8, nil},
	}
	for _, x := range cases {
		l := impl.DiceSubPatch(sharpView(1), p, x.q, x.n, 0, 0)
		if got := cellsOf(l); !slices.Equal(got, x.cells) || len(l) != 2*len(x.cells) {
			t.Errorf("the part %v of a grid of %d has the cells %v, not %v", x.q, x.n, got, x.cells)
		}
	}
}

func TestP15DiceSubPatchRejects(t *testing.T) {
	p := flatPatch([2]int{0, 0}, [2]int{64, 0}, [2]int{0, 64}, [2]int{64, 64})
	for _, q := range invalidSubPatches() {
		for n := -1; n <= 9; n++ {
			wantNotDiced(t, impl.DiceSubPatch(sharpView(1), p, q, n, 0, 0), "the part of the grid", q, n)
		}
		wantNotDiced(t, impl.DiceSubPatch(sharpView(1), p, q, q.N, 0, 0), "the part of a grid of its N", q)
	}
	for _, side := range powersOfTwo() {
		for _, n := range append(extremeInts(), 0, -side, 8*side, 9, 16, 64, 1<<32+8, 1<<62) {
			if n < 1 || n > 8 {
				wantNotDiced(t, impl.DiceSubPatch(sharpView(1), p, sub(side-1, 0, side), n, 0, 0), "a part of the grid", side, n)
			}
		}
	}
}

// checkRate wants the rate of the patch, and the same one if any of its axes and parameters are exchanged or reversed.
func checkRate(t *testing.T, p impl.Patch, most, want int) {
	t.Helper()
	c := p.Corners
	for _, p := range []impl.Patch{p, patch(c[1], c[0], c[3], c[2]), patch(c[2], c[3], c[0], c[1]), patch(c[0], c[2], c[1], c[3])} {
		exchanged := p
		for k, v := range p.Corners {
			exchanged.Corners[k] = vec(v.Y, v.X, v.Z)
		}
		for _, p := range []impl.Patch{p, exchanged} {
			if got := impl.DiceRate(sharpView(1), p, most); got != want {
				t.Errorf("DiceRate(%+v, %d) = %d, not %d", p.Corners, most, got, want)
			}
		}
	}
}

func TestP15DiceRateCases(t *testing.T) {
	// The distance is that between horizontal neighbors in X alone; checkRate exchanges the axes and the parameters.
	cases := []struct{ distance, most, want int }{
		{0, 1, 1}, {1, 1, 1}, {2, 1, 2}, {2, 2, 1}, {4, 1, 4}, {4, 2, 2}, {4, 3, 2}, {4, 4, 1}, {5, 4, 2}, {8, 1, 8}, {8, 2, 4}, {8, 3, 4}, {8, 4, 2}, {8, 7, 2}, {8, 8, 1}, {9, 8, 2}, {9, 1, 8}, {64, 8, 8}, {64, 15, 8}, {64, 16, 4}, {64, 31, 4}, {64, 32, 2}, {64, 63, 2}, {64, 64, 1},
		{1000, 1000, 1}, {1000, 999, 2}, {1001, 1000, 2}, {1998, 999, 2}, {2000, 1000, 2}, {2002, 1000, 4}, {4000, 1000, 4}, {4000, 999, 8}, {4004, 1000, 8}, {8000, 1000, 8}, {8008, 1000, 8}, {90000, 1000, 8}, {90000, 1, 8},
	}
	for _, x := range cases {
		checkRate(t, flatPatch([2]int{0, 0}, [2]int{x.distance, 0}, [2]int{0, 0}, [2]int{x.distance, 0}), x.most, x.want)
		checkRate(t, flatPatch([2]int{5, 0}, [2]int{5 - x.distance, 0}, [2]int{5, 0}, [2]int{5 - x.distance, 0}), x.most, x.want)
		// The neighbors on a single side of the patch count as well.
		checkRate(t, flatPatch([2]int{0, 0}, [2]int{x.distance, 0}, [2]int{0, 0}, [2]int{0, 0}), x.most, x.want)
		checkRate(t, flatPatch([2]int{-3, 7}, [2]int{-3, 7}, [2]int{-3, 7}, [2]int{-3, 7 + x.distance}), x.most, x.want)
		// Both coordinates have to be close, and so have both kinds of neighbors.
		checkRate(t, flatPatch([2]int{0, 0}, [2]int{x.distance, 1}, [2]int{0, 0}, [2]int{x.distance, 1}), x.most, x.want)
		checkRate(t, flatPatch([2]int{0, 0}, [2]int{x.distance, x.distance}, [2]int{0, 1}, [2]int{x.distance, x.distance + 1}), x.most, x.want)
		// The neighbors on a diagonal do not count.
		checkRate(t, flatPatch([2]int{0, 0}, [2]int{x.distance, 0}, [2]int{x.distance, 0}, [2]int{2 * x.distance, 0}), x.most, x.want)
	}
	// Points that are not exact are rounded down: the last of the points 0, 1, 3 is 2 away from the one before it.
	checkRate(t, flatPatch([2]int{0, 0}, [2]int{3, 0}, [2]int{0, 0}, [2]int{3, 0}), 2, 2)
	checkRate(t, flatPatch([2]int{0, 0}, [2]int{3, 0}, [2]int{0, 0}, [2]int{3, 0}), 1, 4)
	checkRate(t, flatPatch([2]int{0, 0}, [2]int{5, 0}, [2]int{0, 0}, [2]int{5, 0}), 1, 8)
	checkRate(t, flatPatch([2]int{0, 0}, [2]int{4001, 0}, [2]int{0, 0}, [2]int{4001, 0}), 1000, 8)
}

// Distances are those on the screen, where points beyond its range are moved to its border.
func TestP15DiceRateMeasuresOnTheScreen(t *testing.T) {
	checkRate(t, flatPatch([2]int{100000, 0}, [2]int{1000000, 0}, [2]int{200000, 0}, [2]int{99984, 0}), 1, 1)
	checkRate(t, flatPatch([2]int{-1000000, 5}, [2]int{-100016, 5}, [2]int{-500000, 6}, [2]int{-100017, 6}), 1, 1)
	checkRate(t, flatPatch([2]int{99982, 0}, [2]int{1000000, 0}, [2]int{99982, 0}, [2]int{1000000, 0}), 2, 1)
	checkRate(t, flatPatch([2]int{-1000000, 0}, [2]int{1000000, 0}, [2]int{-1000000, 0}, [2]int{1000000, 0}), 1000, 8)
	// Depths do not count by themselves, whatever the distance between them is.
	deep := withPatchDepths(flatPatch([2]int{0, 0}, [2]int{4, 0}, [2]int{0, 4}, [2]int{4, 4}), 1, 1000000, 1000000, 1)
	checkRate(t, deep, 4, 1)
	checkRate(t, deep, 2, 2)
	// Orthographic: 100 is projected to 100 * 512 / 256.
	p := flatPatch([2]int{0, 0}, [2]int{100, 0}, [2]int{0, 100}, [2]int{100, 100})
	for most, want := range map[int]int{200: 1, 199: 2, 100: 2, 99: 4, 50: 4, 49: 8, 25: 8, 1: 8, 1000: 1} {
		if got := impl.DiceRate(camera(2, 2, 512, 1, false, 0, 0), p, most); got != want {
			t.Errorf("DiceRate with the zoom 512 and at most %d is %d, not %d", most, got, want)
		}
	}
	// Perspective: the front edge, at the depth 100, is 300 long, and the end of the row of 4 behind it, at the depth 150, is moved from 300 to 200.
	p = withPatchDepths(p, 100, 100, 300, 300)
	for most, want := range map[int]int{300: 1, 299: 2, 200: 2, 150: 2, 149: 4, 100: 4, 99: 8, 75: 8} {
		if got := impl.DiceRate(camera(2, 2, 300, 1, true, 0, 0), p, most); got != want {
			t.Errorf("DiceRate in perspective with at most %d is %d, not %d", most, got, want)
		}
	}
}

func TestP15DiceRate(t *testing.T) {
	for i, c := range diceCameras() {
		for k, p := range facingPatches(c) {
			for _, most := range []int{1, 2, 7, 16, 100, 1000, 1 + (37*i+101*k)%999} {
				if got, want := impl.DiceRate(c, p, most), wantRate(c, p, most); got != want {
					t.Fatalf("%s is %d, not %d", diceText("the rate", c, p, most), got, want)
				}
			}
		}
	}
}

func TestP15DiceRateOfManyPatches(t *testing.T) {
	found := map[int]int{}
	for i, p := range anyPatches() {
		for _, q := range []impl.Patch{p, withPatchDepths(p, 1+i%200, 50, 60, 1000)} {
			c, most := camera(5, 6, 1+i*50%65536, 1, i%2 == 0, 64, 10), 1+i*i%1000
			got, want := impl.DiceRate(c, q, most), wantRate(c, q, most)
			if got != want {
				t.Fatalf("%s is %d, not %d", diceText("the rate", c, q, most), got, want)
			}
			found[got]++
		}
	}
	for i := range 2000 {
		at := func(k int) [2]int { return [2]int{(i*(k+3) + i/7*k) % 41, (i*(2*k+5) + i/11) % 37} }
		p, most := flatPatch(at(0), at(1), at(2), at(3)), 1+i%40
		got, want := impl.DiceRate(sharpView(1), p, most), wantRate(sharpView(1), p, most)
		if got != want {
			t.Fatalf("%s is %d, not %d", diceText("the rate", sharpView(1), p, most), got, want)
		}
		found[got]++
	}
	for _, rate := range []int{0, 1, 2, 4, 8} {
		if found[rate] < 20 {
			t.Errorf("only %d patches have the rate %d", found[rate], rate)
		}
	}
}

func TestP15DiceRateLimits(t *testing.T) {
	p := flatPatch([2]int{0, 0}, [2]int{1, 0}, [2]int{0, 1}, [2]int{1, 1})
	for _, most := range []int{1, 2, 500, 999, 1000} {
		if got := impl.DiceRate(sharpView(1), p, most); got != 1 {
			t.Errorf("DiceRate with at most %d is %d", most, got)
		}
	}
	for _, most := range append(extremeInts(), 0, -1, -1000, 1001, 2000, 1<<32+1, 1<<32+1000) {
		if got := impl.DiceRate(sharpView(1), p, most); (most < 1 || most > 1000) && got != 0 {
			t.Errorf("DiceRate with at most %d is %d", most, got)
		}
	}
	for _, p := range anyPatches() {
		if got := impl.DiceRate(sharpView(1), p, 1000); (got != 0) != wantValidPatch(p) {
			t.Errorf("DiceRate(%+v) = %d", p.Corners, got)
		}
	}
}

// The corners are points of every grid, and no point is nearer than all of them: if one is hidden, no rate is acceptable, and otherwise no point is hidden.
func TestP15DiceRateOfHiddenPoints(t *testing.T) {
	p := withPatchDepths(flatPatch([2]int{0, 0}, [2]int{1, 0}, [2]int{0, 1}, [2]int{1, 1}), 100, 100, 100, 100)
	for _, c := range withDeep(camera(2, 2, 1, 100, false, 64, 5)) {
		for k := range 4 {
			for _, z := range []int{99, 50, 0, -1, -1000000} {
				hidden := withCornerComponent(p, k, 2, z)
				if got := impl.DiceRate(c, hidden, 1000); got != 8 {
					t.Errorf("%s is %d", diceText("the rate", c, hidden, 1000), got)
				}
			}
			for _, z := range []int{100, 101, 1000000} {
				if got := impl.DiceRate(c, withCornerComponent(p, k, 2, z), 1000); got != 1 {
					t.Errorf("%s is %d", diceText("the rate", c, withCornerComponent(p, k, 2, z), 1000), got)
				}
			}
		}
		if got := impl.DiceRate(c, withPatchDepths(p, 99, 99, 99, 99), 1); got != 8 {
			t.Errorf("the rate of a hidden patch is %d", got)
		}
	}
	for _, c := range diceCameras() {
		for _, p := range facingPatches(c) {
			isSeen := len(impl.DicePatch(c, p, 1, 0, 0)) == 2
			for n := 2; n <= 8; n++ {
				if isSeen && len(impl.DicePatch(c, p, n, 0, 0)) != 2*n*n {
					t.Errorf("%s has hidden cells", diceText("the patch", c, p, n))
				}
			}
			if !isSeen && wantValidPatch(p) && impl.DiceRate(c, p, 1000) != 8 {
				t.Errorf("%s is not 8", diceText("the rate", c, p))
			}
		}
	}
}

// The rate is that from the lens center, whatever the lens and the focal plane are.
func TestP15DiceRateDoesNotDependOnTheLens(t *testing.T) {
	for _, c := range diceCameras() {
		for _, p := range facingPatches(c) {
			for _, most := range []int{1, 10, 100, 1000} {
				want := impl.DiceRate(c, p, most)
				for _, lens := range [][2]int{{0, 0}, {64, 0}, {64, 1000000}, {1, 500}} {
					other := c
					other.Lens, other.Focus = lens[0], lens[1]
					if got := impl.DiceRate(other, p, most); got != want {
						t.Fatalf("%s is %d, not %d", diceText("the rate", other, p, most), got, want)
					}
				}
			}
		}
	}
}

func TestP15SameMicropolygons(t *testing.T) {
	base := micropolygon(vec(1, 2, 3), vec(4, 5, 6), vec(7, 8, 9), 10, 11, 12)
	other := micropolygon(vec(1, 2, 3), vec(7, 8, 9), vec(4, 5, 6), 10, 11, 12)
	lists := [][]impl.Micropolygon{nil, {{}}, {{}, {}}, {base}, {other}, {base, base}, {base, other}, {other, base}, {base, other, base}, {other, other, base}, {base, {}}, {{}, base}}
	for _, field := range changedMicropolygons(base) {
		lists = append(lists, []impl.Micropolygon{field}, []impl.Micropolygon{base, field}, []impl.Micropolygon{field, base}, []impl.Micropolygon{base, field, base})
	}
	for i, a := range lists {
		for k, b := range lists {
			if got := impl.SameMicropolygons(a, b); got != (i == k) || impl.SameMicropolygons(slices.Clone(a), b) != got {
				t.Errorf("SameMicropolygons(%v, %v) = %v", a, b, got)
			}
		}
	}
	empty := []impl.Micropolygon{}
	if !impl.SameMicropolygons(nil, empty) || !impl.SameMicropolygons(empty, nil) || !impl.SameMicropolygons(empty, empty) || !impl.SameMicropolygons(nil, lists[3][:0]) || impl.SameMicropolygons(empty, lists[1]) || impl.SameMicropolygons(lists[1], empty) {
		t.Error("empty and nil lists are not the same, or the same as others")
	}
	for _, c := range diceCameras()[:4] {
		for _, p := range facingPatches(c) {
			a, b := impl.DicePatch(c, p, 4, 0, 0), impl.DicePatch(c, p, 8, 0, 0)
			if !impl.SameMicropolygons(a, impl.DicePatch(c, p, 4, 0, 0)) || impl.SameMicropolygons(a, b) != (len(a)+len(b) == 0) {
				t.Errorf("%s is not the same as itself, or as on a finer grid", diceText("the patch", c, p))
			}
		}
	}
}

// changedMicropolygons lists copies of m that differ from it in a single number, also by a multiple of 2 to the 32nd, and beyond the ranges.
func changedMicropolygons(m impl.Micropolygon) []impl.Micropolygon {
	var l []impl.Micropolygon
	for _, step := range []int{1, -1, 1 << 32, math.MinInt, 1000000, 2000000} {
		for k := range 3 {
			for component, n := range parts(m.Triangle.P[k]) {
				changed := m
				changed.Triangle = withPart(m.Triangle, k, component, n+step)
				l = append(l, changed)
			}
		}
		u, v, n := m, m, m
		u.U, v.V, n.N = m.U+step, m.V+step, m.N+step
		l = append(l, u, v, n)
	}
	return l
}

func TestP15DicingRepeatsItsResults(t *testing.T) {
	c := camera(5, 6, 700, 30, true, 64, 2000)
	for _, p := range facingPatches(c) {
		dice := func() [][]impl.Micropolygon {
			return [][]impl.Micropolygon{impl.DiceCell(c, p, 1, 2, 3, 5, -7), impl.DicePatch(c, p, 4, 5, -7), impl.DiceSubPatch(c, p, sub(1, 0, 2), 4, 5, -7)}
		}
		before, rate := dice(), impl.DiceRate(c, p, 20)
		for range 3 {
			for k, l := range dice() {
				wantDiced(t, l, before[k], "a repeated result", c, p)
			}
			if impl.DiceRate(c, p, 20) != rate {
				t.Errorf("%s is not repeated", diceText("the rate", c, p))
			}
		}
	}
}

// overwriteDiced destroys a list and the spare capacity behind it.
func overwriteDiced(l []impl.Micropolygon) {
	l = l[:cap(l)]
	for k := range l {
		l[k] = micropolygon(vec(-1, -2, -3), vec(-4, -5, -6), vec(-7, -8, -9), -1, -2, -3)
	}
}

func TestP15DicedListsAreNew(t *testing.T) {
	c, p := sharpView(1), flatPatch([2]int{0, 0}, [2]int{8, 0}, [2]int{0, 8}, [2]int{8, 8})
	calls := []func() []impl.Micropolygon{
		func() []impl.Micropolygon { return impl.DiceCell(c, p, 1, 1, 3, 0, 0) },
		func() []impl.Micropolygon { return impl.DicePatch(c, p, 1, 0, 0) },
		func() []impl.Micropolygon { return impl.DicePatch(c, p, 8, 0, 0) },
		func() []impl.Micropolygon { return impl.DiceSubPatch(c, p, sub(0, 0, 1), 3, 0, 0) },
		func() []impl.Micropolygon { return impl.DiceSubPatch(c, p, sub(1, 1, 2), 4, 0, 0) },
	}
	for k, call := range calls {
		kept := call()
		want := slices.Clone(kept)
		for _, other := range calls {
			overwriteDiced(other())
		}
		overwriteDiced(append(call(), want[0]))
		if !equalDiced(kept, want) || !equalDiced(call(), want) {
			t.Errorf("the list of call %d changes with those of others", k)
		}
	}
}

func TestP15SameMicropolygonsChangesNothing(t *testing.T) {
	m := micropolygon(vec(1, 2, 3), vec(4, 5, 6), vec(7, 8, 9), 10, 11, 12)
	for _, n := range []int{0, 1, 2, 3} {
		a, b := []impl.Micropolygon{m, {}, m, {}, m}, []impl.Micropolygon{m, {}, {}, m, m}
		wantA, wantB := slices.Clone(a), slices.Clone(b)
		if got := impl.SameMicropolygons(a[:n], b[:n]); got != (n < 3) {
			t.Errorf("SameMicropolygons of %d is %v", n, got)
		}
		impl.SameMicropolygons(a[:n], b[1:n+1])
		if !equalDiced(a, wantA) || !equalDiced(b, wantB) {
			t.Errorf("SameMicropolygons of %d changes its arguments", n)
		}
	}
}
