package tests

import (
	"fmt"
	"math"
	"math/big"
	"slices"
	"testing"

	"loop.example/g00809/impl"
)

// level returns a mesh whose vertices have the given X and the negative of it as Y, so that one of the two shows in which direction an average is rounded.
func level(xs []int, faces ...[]int) impl.Mesh {
	m := impl.Mesh{Faces: faces}
	for _, x := range xs {
		m.Vertices = append(m.Vertices, vec(x, -x, 0))
	}
	return m
}

// glued has the two meshes as parts that share only their vertex 0.
func glued(a, b impl.Mesh) impl.Mesh {
	m := copyOf(a)
	moved := renumbered(b, func(v int) int {
		if v == 0 {
			return 0
		}
		return v + len(a.Vertices) - 1
	})
	m.Vertices = append(m.Vertices, b.Vertices[1:]...)
	m.Faces = append(m.Faces, moved.Faces...)
	return m
}

// placed keeps the faces of m and moves its vertices.
func placed(m impl.Mesh, at func(i int, v impl.Vec) impl.Vec) impl.Mesh {
	m = copyOf(m)
	for i, v := range m.Vertices {
		m.Vertices[i] = at(i, v)
	}
	return m
}

// placements lists meshes with the faces of m: with sums of both signs, with small negative ones, and at the ends of the range.
func placements(m impl.Mesh) []impl.Mesh {
	ends := []int{1000000, -1000000, 999999, -999998, -1000000, 1000000, 3}
	return []impl.Mesh{
		m, placed(m, func(_ int, v impl.Vec) impl.Vec { return negative(v) }),
		placed(m, func(i int, _ impl.Vec) impl.Vec { return vec(i%3-2, 1-i*i%4, -(i % 2)) }),
		placed(m, func(i int, _ impl.Vec) impl.Vec { return vec(ends[i%7], ends[i*i%7], ends[(3*i+1)%7]) }),
		placed(m, func(int, impl.Vec) impl.Vec { return vec(1000000, -1000000, -999999) }),
	}
}

// baseMeshes adds meshes to the valid ones of chapter 7 that are as large as subdivision allows, or with several parts at one vertex.
func baseMeshes() []impl.Mesh {
	return append(validMeshes(),
		torusMesh(4, 4), torusMesh(3, 5), gridMesh(4, 4), gridMesh(1, 16), gridMesh(3, 3), wheelMesh(4), wheelMesh(16), ringMesh(16), together(torusMesh(4, 4), mesh(16)), together(torusMesh(4, 4), mesh(17)), mesh(75, []int{74, 3, 0, 9}), mesh(76, []int{74, 3, 0, 9}),
		together(bothSides(), bothSides()), glued(quadMesh(), quadMesh()), glued(quadMesh(), glued(quadMesh(), quadMesh())), glued(bothSides(), bothSides()), glued(cubeMesh(), cubeMesh()), glued(wheelMesh(3), quadMesh()), glued(quadMesh(), cubeMesh()), glued(glued(quadMesh(), quadMesh()), wheelMesh(4)))
}

// fineMeshes lists the meshes that can be subdivided, in all their placements.
func fineMeshes() []impl.Mesh {
	var l []impl.Mesh
	for _, base := range baseMeshes() {
		if _, ok := impl.Subdivide(base); ok {
			l = append(l, placements(base)...)
		}
	}
	return l
}

func equalMeshes(a, b impl.Mesh) bool {
	return slices.Equal(a.Vertices, b.Vertices) && equalPairs(a.Faces, b.Faces)
}

// averageOf divides the sum of the points, which may be beyond the range, by n.
func averageOf(n int, points ...impl.Vec) impl.Vec {
	return vecOf(func(k int) int {
		sum := 0
		for _, v := range points {
			sum += parts(v)[k]
		}
		return quotient(big.NewInt(int64(sum)), n)
	})
}

// wantFacePoint and the functions after it follow the formulas of the document and, where it mentions edges and faces, the brute-force functions of chapter 7. They want a mesh that is valid or empty.
func wantFacePoint(seen impl.Mesh, f int) impl.Vec {
	if f < 0 || f >= len(seen.Faces) {
		return impl.Vec{}
	}
	face, v := seen.Faces[f], seen.Vertices
	return averageOf(4, v[face[0]], v[face[1]], v[face[2]], v[face[3]])
}

func wantEdgePoint(seen impl.Mesh, a, b int) impl.Vec {
	faces := wantEdgeFaces(seen, a, b)
	switch len(faces) {
	case 1:
		return averageOf(2, seen.Vertices[a], seen.Vertices[b])
	case 2:
		return averageOf(4, seen.Vertices[a], seen.Vertices[b], wantFacePoint(seen, faces[0]), wantFacePoint(seen, faces[1]))
	}
	return impl.Vec{}
}

func pairEnds(pairs [][]int, v int) []int {
	var l []int
	for _, pair := range pairs {
		if slices.Contains(pair, v) {
			l = append(l, pair[0]+pair[1]-v)
		}
	}
	return l
}

// wantVertexPoint is given the edges and the boundary edges of the mesh, because finding them takes long.
func wantVertexPoint(seen impl.Mesh, edges, boundary [][]int, v int) impl.Vec {
	if v < 0 || v >= len(seen.Vertices) {
		return impl.Vec{}
	}
	old, ends, faces := seen.Vertices[v], pairEnds(boundary, v), wantVertexFaces(seen, v)
	times := func(n int) impl.Vec { return vec(n*old.X, n*old.Y, n*old.Z) }
	if len(ends) == 2 {
		return averageOf(8, times(6), seen.Vertices[ends[0]], seen.Vertices[ends[1]])
	}
	if len(ends) > 0 || len(faces) == 0 {
		return old
	}
	n := len(faces)
	points := []impl.Vec{times(n * (n - 3))}
	for _, f := range faces {
		points = append(points, wantFacePoint(seen, f))
	}
	for _, w := range pairEnds(edges, v) {
		points = append(points, old, seen.Vertices[w])
	}
	return averageOf(n*n, points...)
}

func wantSubdivided(m impl.Mesh) (impl.Mesh, bool) {
	if !wantValidMesh(m) || len(m.Faces) > 16 {
		return impl.Mesh{}, false
	}
	edges, boundary := wantEdges(m, 1, 2), wantEdges(m, 1, 1)
	if len(m.Vertices)+len(edges)+len(m.Faces) > 80 {
		return impl.Mesh{}, false
	}
	var fine impl.Mesh
	for v := range m.Vertices {
		fine.Vertices = append(fine.Vertices, wantVertexPoint(m, edges, boundary, v))
	}
	for _, pair := range edges {
		fine.Vertices = append(fine.Vertices, wantEdgePoint(m, pair[0], pair[1]))
	}
	onEdge := func(a, b int) int {
		return len(m.Vertices) + slices.IndexFunc(edges, func(pair []int) bool { return pair[0] == min(a, b) && pair[1] == max(a, b) })
	}
	for f, face := range m.Faces {
		fine.Vertices = append(fine.Vertices, wantFacePoint(m, f))
		for k, v := range face {
			fine.Faces = append(fine.Faces, []int{v, onEdge(v, face[(k+1)%4]), len(m.Vertices) + len(edges) + f, onEdge(face[(k+3)%4], v)})
		}
	}
	return fine, true
}

func wantSubdividedN(m impl.Mesh, n int) (impl.Mesh, bool) {
	ok := wantValidMesh(m) && n >= 0 && n <= 3
	for k := 0; ok && k < n; k++ {
		m, ok = wantSubdivided(m)
	}
	if !ok {
		return impl.Mesh{}, false
	}
	return m, true
}

// faceNumbers lists the indices of all faces and numbers that are none.
func faceNumbers(m impl.Mesh) []int {
	n := len(m.Faces)
	l := []int{-1, -2, n, n + 1, 64, 65, 1 << 32, math.MinInt, math.MinInt + 1, math.MaxInt - 1, math.MaxInt}
	for f := range min(n, 70) {
		l = append(l, f)
	}
	return l
}

func stepNumbers() []int {
	return []int{0, 1, 2, 3, 4, 5, -1, -2, -3, 1 << 32, math.MinInt, math.MinInt + 1, math.MaxInt - 1, math.MaxInt}
}

// checkPoints wants the edges and boundary edges of m, and compares EdgePoint for its edges only.
func checkPoints(t *testing.T, m impl.Mesh, edges, boundary [][]int) {
	t.Helper()
	seen := wantSeen(m)
	for _, f := range faceNumbers(m) {
		if got, want := impl.FacePoint(m, f), wantFacePoint(seen, f); got != want {
			t.Fatalf("FacePoint(%v, %d) = %v, not %v", m, f, got, want)
		}
	}
	for _, v := range vertexNumbers(m) {
		if got, want := impl.VertexPoint(m, v), wantVertexPoint(seen, edges, boundary, v); got != want {
			t.Fatalf("VertexPoint(%v, %d) = %v, not %v", m, v, got, want)
		}
	}
	for _, pair := range edges {
		a, b := pair[0], pair[1]
		forth, back := impl.EdgePoint(m, a, b), impl.EdgePoint(m, b, a)
		if want := wantEdgePoint(seen, a, b); forth != want || back != want {
			t.Fatalf("EdgePoint(%v, %d, %d) = %v, and exchanged %v, not %v", m, a, b, forth, back, want)
		}
	}
}

func checkEdgePoints(t *testing.T, m impl.Mesh) {
	t.Helper()
	seen := wantSeen(m)
	for _, a := range vertexNumbers(m) {
		for _, b := range vertexNumbers(m) {
			if got, want := impl.EdgePoint(m, a, b), wantEdgePoint(seen, a, b); got != want {
				t.Fatalf("EdgePoint(%v, %d, %d) = %v, not %v", m, a, b, got, want)
			}
		}
	}
}

func checkSubdivision(t *testing.T, m impl.Mesh) {
	t.Helper()
	got, ok := impl.Subdivide(m)
	if want, wantOk := wantSubdivided(m); ok != wantOk || !equalMeshes(got, want) {
		t.Fatalf("Subdivide(%v) = %v, %v, not %v, %v", m, got, ok, want, wantOk)
	}
	for _, n := range stepNumbers() {
		got, ok := impl.SubdivideN(m, n)
		if want, wantOk := wantSubdividedN(m, n); ok != wantOk || !equalMeshes(got, want) {
			t.Fatalf("SubdivideN(%v, %d) = %v, %v, not %v, %v", m, n, got, ok, want, wantOk)
		}
	}
}

// subdivisionText writes results of all functions of chapter 8 for m; fmt writes a nil slice as it writes an empty one.
func subdivisionText(m impl.Mesh) string {
	text := ""
	for f := -1; f <= len(m.Faces); f++ {
		text += fmt.Sprintln("face", f, impl.FacePoint(m, f))
	}
	for v := -1; v <= len(m.Vertices); v++ {
		text += fmt.Sprintln("vertex", v, impl.VertexPoint(m, v), impl.EdgePoint(m, v, v+1), impl.EdgePoint(m, v, 0))
	}
	fine, ok := impl.Subdivide(m)
	text += fmt.Sprintln("step", fine, ok)
	for n := -1; n <= 4; n++ {
		fine, ok := impl.SubdivideN(m, n)
		text += fmt.Sprintln("steps", n, fine, ok)
	}
	return text
}

func TestP3SubdividedMeshesKeepTheirTopology(t *testing.T) {
	count := 0
	for _, base := range baseMeshes() {
		m := base
		for n := 1; n <= 3; n++ {
			fine, ok := impl.Subdivide(m)
			if !ok {
				break
			}
			count++
			if !impl.IsValidMesh(fine) || len(fine.Faces) != 4*len(m.Faces) || impl.EulerCharacteristic(fine) != impl.EulerCharacteristic(m) || impl.IsClosed(fine) != impl.IsClosed(m) {
				t.Fatalf("step %d of subdividing %v changes its topology: %v", n, m, fine)
			}
			if len(fine.Vertices) != len(m.Vertices)+len(impl.Edges(m))+len(m.Faces) || len(impl.BoundaryEdges(fine)) != 2*len(impl.BoundaryEdges(m)) {
				t.Fatalf("%v, subdivided, has %d vertices and %d boundary edges", m, len(fine.Vertices), len(impl.BoundaryEdges(fine)))
			}
			for v := range m.Vertices {
				if len(impl.Neighbors(fine, v)) != len(impl.Neighbors(m, v)) || len(impl.VertexFaces(fine, v)) != len(impl.VertexFaces(m, v)) {
					t.Fatalf("subdividing %v changes what meets in vertex %d", m, v)
				}
			}
			m = fine
		}
	}
	if count < 70 {
		t.Errorf("only %d steps were made", count)
	}
}

func TestP3SubdividedMeshesStayWithinTheirBounds(t *testing.T) {
	count := 0
	for _, m := range fineMeshes() {
		bounds, _ := impl.BoundPoints(m.Vertices)
		for n := 1; n <= 3; n++ {
			fine, _ := impl.SubdivideN(m, n)
			for _, v := range fine.Vertices {
				count++
				if !impl.BoxContains(bounds, v) {
					t.Fatalf("%v lies within %v, but has the vertex %v after %d steps", m, bounds, v, n)
				}
			}
		}
	}
	if count < 10000 {
		t.Errorf("only %d vertices were compared", count)
	}
}

// Each new point also stays within the bounds of what it is computed from.
func TestP3PointsStayWithinTheFacesAroundThem(t *testing.T) {
	for _, m := range fineMeshes() {
		inside := func(v impl.Vec, faces []int) bool {
			var around []impl.Vec
			for _, f := range faces {
				for _, w := range m.Faces[f] {
					around = append(around, m.Vertices[w])
				}
			}
			bounds, ok := impl.BoundPoints(around)
			return ok && impl.BoxContains(bounds, v)
		}
		for f := range m.Faces {
			if !inside(impl.FacePoint(m, f), []int{f}) {
				t.Fatalf("the point of face %d of %v lies outside of it", f, m)
			}
		}
		for _, pair := range impl.Edges(m) {
			if !inside(impl.EdgePoint(m, pair[0], pair[1]), impl.EdgeFaces(m, pair[0], pair[1])) {
				t.Fatalf("the point of the edge %v of %v lies outside of its faces", pair, m)
			}
		}
		for v := range m.Vertices {
			faces := impl.VertexFaces(m, v)
			if len(faces) > 0 && !inside(impl.VertexPoint(m, v), faces) || len(faces) == 0 && impl.VertexPoint(m, v) != m.Vertices[v] {
				t.Fatalf("the point of vertex %d of %v lies outside of its faces", v, m)
			}
		}
	}
}

func TestP3SubdivisionMovesWithTheMesh(t *testing.T) {
	for _, base := range baseMeshes() {
		for _, d := range []impl.Vec{vec(1, -1, 3), vec(-1000, 777, -77777)} {
			move := func(_ int, v impl.Vec) impl.Vec { return vec(v.X+d.X, v.Y+d.Y, v.Z+d.Z) }
			fine, ok := impl.Subdivide(base)
			moved, movedOk := impl.Subdivide(placed(base, move))
			if ok != movedOk || !equalMeshes(moved, placed(fine, move)) {
				t.Errorf("%v, moved by %v and subdivided, is %v", base, d, moved)
			}
		}
	}
}

func TestP3SubdivisionDoesNotDependOnTheOrderOrDirectionOfFaces(t *testing.T) {
	for _, m := range fineMeshes() {
		reordered, mirrored, turned := copyOf(m), copyOf(m), copyOf(m)
		slices.Reverse(reordered.Faces)
		for f, face := range m.Faces {
			slices.Reverse(mirrored.Faces[f])
			turned.Faces[f] = turnedFace(face, f%3+1)
		}
		want, _ := impl.Subdivide(m)
		for _, other := range []impl.Mesh{mirrored, turned} {
			if got, ok := impl.Subdivide(other); !ok || !slices.Equal(got.Vertices, want.Vertices) {
				t.Errorf("%v, subdivided, has other vertices than %v", other, m)
			}
		}
		n := len(m.Vertices) + len(impl.Edges(m))
		got, ok := impl.Subdivide(reordered)
		if !ok || !slices.Equal(got.Vertices[:n], want.Vertices[:n]) {
			t.Fatalf("%v, subdivided, has other vertices than %v", reordered, m)
		}
		slices.Reverse(got.Vertices[n:])
		if !slices.Equal(got.Vertices[n:], want.Vertices[n:]) {
			t.Errorf("%v, subdivided, has other face points than %v", reordered, m)
		}
	}
}

func TestP3SubdivisionDoesNotDependOnTheNumbersOfVertices(t *testing.T) {
	for _, m := range fineMeshes() {
		n := len(m.Vertices)
		other := renumbered(m, func(v int) int { return n - 1 - v })
		slices.Reverse(other.Vertices)
		for v := range n {
			if impl.VertexPoint(other, n-1-v) != impl.VertexPoint(m, v) {
				t.Errorf("vertex %d of %v has another point than the vertex in its place of %v", v, m, other)
			}
		}
		for _, pair := range impl.Edges(m) {
			if impl.EdgePoint(other, n-1-pair[0], n-1-pair[1]) != impl.EdgePoint(m, pair[0], pair[1]) {
				t.Errorf("the edge %v of %v has another point than the edge in its place of %v", pair, m, other)
			}
		}
	}
}

func TestP3PartsAreSubdividedByThemselves(t *testing.T) {
	var small []impl.Mesh
	for _, m := range baseMeshes() {
		if len(m.Vertices) <= 20 && len(m.Faces) <= 10 {
			small = append(small, m)
		}
	}
	count := 0
	for i, a := range small {
		for _, b := range small[:i+1] {
			m := together(a, b)
			fine, ok := impl.Subdivide(m)
			if !ok {
				continue
			}
			count++
			one, _ := impl.Subdivide(a)
			two, _ := impl.Subdivide(b)
			if !slices.Equal(impl.FacePatches(fine), append(impl.FacePatches(one), impl.FacePatches(two)...)) {
				t.Fatalf("the patches of %v, subdivided, are not those of its two parts", m)
			}
		}
	}
	if count < 200 {
		t.Errorf("only %d pairs of parts were subdivided", count)
	}
}

func TestP15SubdivisionFunctions(t *testing.T) {
	for _, base := range baseMeshes() {
		edges, boundary := wantEdges(base, 1, 2), wantEdges(base, 1, 1)
		for _, m := range placements(base) {
			checkPoints(t, m, edges, boundary)
		}
		if len(base.Vertices) < 12 {
			checkEdgePoints(t, base)
		}
		if len(base.Faces) < 20 {
			for _, m := range placements(base) {
				checkSubdivision(t, m)
			}
		} else {
			checkSubdivision(t, base)
		}
	}
	checkEdgePoints(t, mesh(80, []int{79, 0, 40, 1}))
	checkEdgePoints(t, torusMesh(4, 4))
}

func TestP15SubdivisionOfSmallMeshes(t *testing.T) {
	for i, m := range smallMeshes() {
		seen := wantSeen(m)
		checkPoints(t, m, wantEdges(seen, 1, 2), wantEdges(seen, 1, 1))
		if i%5 == 0 {
			checkSubdivision(t, placements(m)[i/5%5])
		}
		if i%9 == 0 {
			checkEdgePoints(t, m)
		}
	}
}

func TestP15FacePointCases(t *testing.T) {
	low, high := -1000000, 1000000
	quad := func(xs ...int) impl.Mesh { return level(xs, []int{0, 1, 2, 3}) }
	cases := []struct {
		m    impl.Mesh
		f    int
		want impl.Vec
	}{
		{cubeMesh(), 0, vec(50, 50, 0)}, {cubeMesh(), 1, vec(50, 50, 100)}, {cubeMesh(), 2, vec(50, 0, 50)}, {cubeMesh(), 3, vec(50, 100, 50)}, {cubeMesh(), 4, vec(0, 50, 50)}, {cubeMesh(), 5, vec(100, 50, 50)},
		{quad(0, 0, 0, 1), 0, vec(0, -1, 0)}, {quad(1, 0, 0, 2), 0, vec(0, -1, 0)}, {quad(1, 1, 1, 1), 0, vec(1, -1, 0)}, {quad(2, 0, -7, 0), 0, vec(-2, 1, 0)}, {quad(-1, -2, -3, 0), 0, vec(-2, 1, 0)}, {quad(-4, -2, -3, 0), 0, vec(-3, 2, 0)},
		{quad(high, high, high, high), 0, vec(high, low, 0)}, {quad(low, low, low, low+1), 0, vec(low, high-1, 0)}, {quad(low, high, low, high), 0, vec(0, 0, 0)}, {quad(low, low, low, 999999), 0, vec(-500001, 500000, 0)}, {quad(high, high, high, high-1), 0, vec(high-1, low, 0)},
		{level([]int{90, 1, 2, 3, 5, 70}, []int{4, 3, 2, 1}, []int{1, 2, 0, 5}), 0, vec(2, -3, 0)}, {level([]int{90, 1, 2, 3, 5, 70}, []int{4, 3, 2, 1}, []int{1, 2, 0, 5}), 1, vec(40, -41, 0)},
		{impl.Mesh{Vertices: []impl.Vec{vec(0, 5, -1), vec(1, 5, 0), vec(1, 6, 0), vec(1, 7, 0)}, Faces: [][]int{{3, 1, 0, 2}}}, 0, vec(0, 5, -1)},
		{impl.Mesh{}, 0, impl.Vec{}}, {mesh(5), 0, impl.Vec{}}, {quad(8, 8, 8, 8), -1, impl.Vec{}}, {quad(8, 8, 8, 8), 1, impl.Vec{}}, {quad(8, 8, 8, 8), math.MinInt, impl.Vec{}}, {quad(8, 8, 8, 8), math.MaxInt, impl.Vec{}},
		{quad(8, 8, 8), 0, impl.Vec{}}, {quad(8, 8, 8, high+1), 0, impl.Vec{}}, {withVertex(quad(8, 8, 8, 8), vec(0, 0, low-1)), 0, impl.Vec{}}, {withFace(quad(8, 8, 8, 8), 0, 1, 2, 3), 0, impl.Vec{}}, {withFace(quad(8, 8, 8, 8)), 0, impl.Vec{}}, {together(quad(8, 8, 8, 8), mesh(77)), 0, impl.Vec{}},
	}
	for _, c := range cases {
		if got := impl.FacePoint(c.m, c.f); got != c.want {
			t.Errorf("FacePoint(%v, %d) = %v, not %v", c.m, c.f, got, c.want)
		}
	}
}

func TestP15EdgePointCases(t *testing.T) {
	low, high := -1000000, 1000000
	strip := level([]int{0, 1, 2, 3, 4, 9}, stripMesh(2).Faces...)
	cases := []struct {
		m    impl.Mesh
		a, b int
		want impl.Vec
	}{
		// The faces of the strip have the points 1 and 4, and for Y -2 and -5.
		{strip, 2, 3, vec(2, -3, 0)}, {strip, 0, 1, vec(0, -1, 0)}, {strip, 0, 2, vec(1, -1, 0)}, {strip, 1, 3, vec(2, -2, 0)}, {strip, 2, 4, vec(3, -3, 0)}, {strip, 4, 5, vec(6, -7, 0)}, {strip, 3, 5, vec(6, -6, 0)},
		{cubeMesh(), 0, 1, vec(50, 12, 12)}, {cubeMesh(), 6, 7, vec(50, 87, 87)}, {cubeMesh(), 0, 4, vec(12, 12, 50)}, {cubeMesh(), 1, 3, vec(87, 50, 12)},
		{level([]int{1, 2, 3, 5}, bothSides().Faces...), 0, 3, vec(2, -3, 0)}, {level([]int{high, high, high, low}, []int{0, 1, 2, 3}), 0, 1, vec(high, low, 0)}, {level([]int{high, high, high, low}, []int{0, 1, 2, 3}), 3, 0, vec(0, 0, 0)}, {level([]int{high, high - 1, 0, 0}, []int{0, 1, 2, 3}), 0, 1, vec(high-1, low, 0)},
		{strip, 0, 3, impl.Vec{}}, {strip, 1, 2, impl.Vec{}}, {strip, 1, 5, impl.Vec{}}, {strip, 3, 3, impl.Vec{}}, {strip, 5, 5, impl.Vec{}}, {cubeMesh(), 1, 6, impl.Vec{}}, {cubeMesh(), 7, 1, impl.Vec{}}, {quadMesh(), 0, 2, impl.Vec{}},
		{strip, 5, 6, impl.Vec{}}, {strip, 5, -1, impl.Vec{}}, {strip, -1, -1, impl.Vec{}}, {strip, 5, math.MaxInt, impl.Vec{}}, {strip, 5, math.MinInt, impl.Vec{}}, {strip, math.MinInt, math.MaxInt, impl.Vec{}}, {strip, 1 << 32, 1<<32 + 1, impl.Vec{}},
		{impl.Mesh{}, 0, 0, impl.Vec{}}, {impl.Mesh{}, 0, 1, impl.Vec{}}, {mesh(6), 2, 3, impl.Vec{}}, {withVertex(strip, vec(5, high+1, 5)), 2, 3, impl.Vec{}}, {withFace(strip, 0, 2, 1, 3), 2, 3, impl.Vec{}}, {withFace(strip, 4, 5), 2, 3, impl.Vec{}}, {withIndex(strip, 0, 0, 6), 2, 3, impl.Vec{}},
	}
	for _, c := range cases {
		for _, ends := range [][2]int{{c.a, c.b}, {c.b, c.a}} {
			if got := impl.EdgePoint(c.m, ends[0], ends[1]); got != c.want {
				t.Errorf("EdgePoint(%v, %d, %d) = %v, not %v", c.m, ends[0], ends[1], got, c.want)
			}
		}
	}
}

func TestP15VertexPointCases(t *testing.T) {
	low, high := -1000000, 1000000
	quad := level([]int{0, 4, -3, 9, -77}, []int{0, 1, 2, 3})
	grid := level([]int{0, 1, 2, 3, 14, 5, 6, 7, 9}, gridMesh(2, 2).Faces...)
	wheel := level([]int{20, 1, 2, 3, 4, 5, 6, 7, 8, 9, 10}, wheelMesh(5).Faces...)
	touching := func(parts int) impl.Mesh {
		m := level([]int{5})
		for range parts {
			m = glued(m, level([]int{5, 90, -80, 70}, []int{0, 1, 2, 3}))
		}
		return m
	}
	cases := []struct {
		name string
		m    impl.Mesh
		v    int
		want impl.Vec
	}{
		{"two boundary edges", quad, 0, vec(1, -2, 0)}, {"two boundary edges", quad, 1, vec(2, -3, 0)}, {"a negative sum", quad, 2, vec(-1, 0, 0)}, {"two boundary edges", quad, 3, vec(6, -7, 0)}, {"in no face", quad, 4, vec(-77, 77, 0)},
		{"two boundary edges and an inner edge", level([]int{8, 0, 3, 1, 2, 0}, stripMesh(2).Faces...), 2, vec(3, -4, 0)}, {"boundary edges at the end of the range", level([]int{high, high, low, high - 1}, []int{0, 1, 2, 3}), 0, vec(high-1, low, 0)},
		{"four boundary edges", touching(2), 0, vec(5, -5, 0)}, {"six boundary edges", touching(3), 0, vec(5, -5, 0)}, {"eight boundary edges", touching(4), 0, vec(5, -5, 0)}, {"a vertex beside them", touching(3), 1, vec(58, -59, 0)},
		{"two boundary edges and a closed part", glued(level([]int{5, 1, 2, 3, 4, 5, 6}, wheelMesh(3).Faces...), level([]int{5, 1, 7, -8}, []int{0, 1, 2, 3})), 0, vec(2, -3, 0)}, {"four boundary edges and a closed part", glued(touching(2), level([]int{5, 1, 2, 3, 4, 5, 6}, wheelMesh(3).Faces...)), 0, vec(5, -5, 0)},
		{"two faces", level([]int{1, 2, 3, 5}, bothSides().Faces...), 0, vec(2, -4, 0)}, {"three faces", cubeMesh(), 0, vec(22, 22, 22)}, {"three faces", cubeMesh(), 7, vec(77, 77, 77)}, {"three faces", cubeMesh(), 5, vec(77, 22, 77)},
		{"four faces", grid, 4, vec(9, -10, 0)}, {"five faces", wheel, 0, vec(14, -15, 0)}, {"two closed parts", level([]int{9, 1, 2, 3, 4, 5, 6}, glued(bothSides(), bothSides()).Faces...), 0, vec(6, -7, 0)}, {"faces at one point of the range", placed(cubeMesh(), func(int, impl.Vec) impl.Vec { return vec(high, low, low) }), 3, vec(high, low, low)},
		{"no vertex", impl.Mesh{}, 0, impl.Vec{}}, {"only vertices", level([]int{7, -8}), 1, vec(-8, 8, 0)}, {"one vertex too many", mesh(81), 1, impl.Vec{}}, {"v is -1", grid, -1, impl.Vec{}}, {"v is the number of vertices", grid, 9, impl.Vec{}}, {"the least v", grid, math.MinInt, impl.Vec{}}, {"the greatest v", grid, math.MaxInt, impl.Vec{}}, {"v wraps around", grid, 1<<32 + 4, impl.Vec{}},
		{"a vertex out of range", withVertex(grid, vec(0, low-1, 0)), 4, impl.Vec{}}, {"this vertex out of range", withVertex(grid, vec(high+1, 3, 3)), 9, impl.Vec{}}, {"a repeated directed edge", withFace(grid, 0, 1, 2, 3), 4, impl.Vec{}}, {"a face without vertices", withFace(grid), 4, impl.Vec{}}, {"an index out of range", withIndex(grid, 0, 0, -1), 4, impl.Vec{}},
	}
	for _, c := range cases {
		if got := impl.VertexPoint(c.m, c.v); got != c.want {
			t.Errorf("%s: VertexPoint(%v, %d) = %v, not %v", c.name, c.m, c.v, got, c.want)
		}
	}
}

func wantMesh(t *testing.T, m, want impl.Mesh) {
	t.Helper()
	if got, ok := impl.Subdivide(m); !ok || !equalMeshes(got, want) {
		t.Errorf("Subdivide(%v) = %v, %v, not %v", m, got, ok, want)
	}
}

func TestP15SubdivideQuad(t *testing.T) {
	m := impl.Mesh{Vertices: []impl.Vec{vec(0, 0, -1), vec(4, 0, 0), vec(4, 4, -2), vec(0, 4, 0)}, Faces: [][]int{{0, 1, 2, 3}}}
	wantMesh(t, m, impl.Mesh{
		Vertices: []impl.Vec{
			vec(0, 0, -1), vec(3, 0, -1), vec(3, 3, -2), vec(0, 3, -1),
			vec(2, 0, -1), vec(0, 2, -1), vec(4, 2, -1), vec(2, 4, -1),
			vec(2, 2, -1),
		},
		Faces: [][]int{{0, 4, 8, 5}, {1, 6, 8, 4}, {2, 7, 8, 6}, {3, 5, 8, 7}},
	})
}

func TestP15SubdivideStrip(t *testing.T) {
	vertices := []impl.Vec{vec(0, 0, 0), vec(0, 8, 0), vec(8, 0, -3), vec(8, 8, 0), vec(16, 0, 0), vec(16, 8, 0)}
	wantMesh(t, impl.Mesh{Vertices: vertices, Faces: [][]int{{0, 2, 3, 1}, {2, 4, 5, 3}}}, impl.Mesh{
		Vertices: []impl.Vec{
			vec(1, 1, -1), vec(1, 7, 0), vec(8, 0, -3), vec(8, 8, 0), vec(15, 1, -1), vec(15, 7, 0),
			vec(0, 4, 0), vec(4, 0, -2), vec(4, 8, 0), vec(8, 4, -2), vec(12, 0, -2), vec(12, 8, 0), vec(16, 4, 0),
			vec(4, 4, -1), vec(12, 4, -1),
		},
		Faces: [][]int{{0, 7, 13, 6}, {2, 9, 13, 7}, {3, 8, 13, 9}, {1, 6, 13, 8}, {2, 10, 14, 9}, {4, 12, 14, 10}, {5, 11, 14, 12}, {3, 9, 14, 11}},
	})
}

func TestP15SubdivideCube(t *testing.T) {
	want := impl.Mesh{Faces: [][]int{
		{0, 9, 20, 8}, {2, 13, 20, 9}, {3, 11, 20, 13}, {1, 8, 20, 11},
		{4, 16, 21, 17}, {5, 18, 21, 16}, {7, 19, 21, 18}, {6, 17, 21, 19},
		{0, 8, 22, 10}, {1, 12, 22, 8}, {5, 16, 22, 12}, {4, 10, 22, 16},
		{2, 14, 23, 13}, {6, 19, 23, 14}, {7, 15, 23, 19}, {3, 13, 23, 15},
		{0, 10, 24, 9}, {4, 17, 24, 10}, {6, 14, 24, 17}, {2, 9, 24, 14},
		{1, 11, 25, 12}, {3, 15, 25, 11}, {7, 18, 25, 15}, {5, 12, 25, 18},
	}}
	for i := range 8 {
		corner := []int{22, 77}
		want.Vertices = append(want.Vertices, vec(corner[i&1], corner[i>>1&1], corner[i>>2]))
	}
	want.Vertices = append(want.Vertices,
		vec(50, 12, 12), vec(12, 50, 12), vec(12, 12, 50), vec(87, 50, 12), vec(87, 12, 50), vec(50, 87, 12),
		vec(12, 87, 50), vec(87, 87, 50), vec(50, 12, 87), vec(12, 50, 87), vec(87, 50, 87), vec(50, 87, 87),
		vec(50, 50, 0), vec(50, 50, 100), vec(50, 0, 50), vec(50, 100, 50), vec(0, 50, 50), vec(100, 50, 50),
	)
	wantMesh(t, cubeMesh(), want)
}

func TestP15SubdivideLimits(t *testing.T) {
	if impl.MaxBaseFaces != 16 {
		t.Errorf("MaxBaseFaces is %d", impl.MaxBaseFaces)
	}
	small := torusMesh(4, 4)
	cases := []struct {
		name            string
		m               impl.Mesh
		vertices, faces int
	}{
		{"no vertex and no face", impl.Mesh{}, 0, 0}, {"one vertex", mesh(1), 1, 0}, {"most vertices", mesh(80), 80, 0}, {"one vertex too many", mesh(81), -1, 0},
		{"15 faces", torusMesh(3, 5), 60, 60}, {"16 faces", small, 64, 64}, {"17 faces, and 73 vertices", together(small, quadMesh()), -1, 0}, {"18 faces, and 72 vertices", torusMesh(3, 6), -1, 0}, {"64 faces", torusMesh(8, 8), -1, 0},
		{"16 faces and 80 vertices", together(small, mesh(16)), 80, 64}, {"16 faces and 81 vertices", together(small, mesh(17)), -1, 0}, {"16 faces of a grid and 81 vertices", gridMesh(4, 4), -1, 0}, {"16 faces of a ring", ringMesh(16), -1, 0},
		{"a quad and 79 vertices", mesh(74, []int{0, 1, 2, 3}), 79, 4}, {"a quad and 80 vertices", mesh(75, []int{0, 1, 2, 3}), 80, 4}, {"a quad and 81 vertices", mesh(76, []int{0, 1, 2, 3}), -1, 0}, {"a quad and 85 vertices", mesh(80, []int{0, 1, 2, 3}), -1, 0},
		{"a cube and 80 vertices", withVertex(together(cubeMesh(), mesh(53)), vec(1, 2, 3)), 80, 24}, {"a cube and 81 vertices", withVertex(together(cubeMesh(), mesh(54)), vec(1, 2, 3)), -1, 0}, {"13 faces of a strip", stripMesh(13), -1, 0}, {"12 faces of a strip", stripMesh(12), 75, 48},
	}
	for _, c := range cases {
		got, ok := impl.Subdivide(c.m)
		if c.vertices < 0 && (ok || !equalMeshes(got, impl.Mesh{})) {
			t.Errorf("%s: Subdivide returns %v, %v", c.name, got, ok)
		}
		if c.vertices >= 0 && (!ok || len(got.Vertices) != c.vertices || len(got.Faces) != c.faces || !impl.IsValidMesh(got)) {
			t.Errorf("%s: Subdivide returns %d vertices and %d faces, and %v", c.name, len(got.Vertices), len(got.Faces), ok)
		}
	}
}

func TestP15SubdivideKeepsMeshesWithoutFaces(t *testing.T) {
	for _, n := range []int{0, 1, 2, 79, 80} {
		for _, m := range placements(mesh(n)) {
			once, ok := impl.Subdivide(m)
			thrice, okN := impl.SubdivideN(m, 3)
			if !ok || !okN || !equalMeshes(once, m) || !equalMeshes(thrice, m) {
				t.Errorf("%v, subdivided, is %v, %v, and three times %v, %v", m, once, ok, thrice, okN)
			}
		}
	}
}

func TestP15SubdivideNLimits(t *testing.T) {
	// most is the greatest number of steps, and vertices the number of vertices after them.
	cases := []struct {
		name                  string
		m                     impl.Mesh
		most, vertices, faces int
	}{
		{"no faces", mesh(80), 3, 80, 0}, {"an empty mesh", impl.Mesh{}, 3, 0, 0}, {"a quad", quadMesh(), 2, 25, 16}, {"both sides of a quad", bothSides(), 2, 34, 32}, {"two quads", stripMesh(2), 2, 45, 32}, {"a ring of four", ringMesh(4), 2, 80, 64}, {"a ring of three", ringMesh(3), 2, 60, 48},
		{"a wheel of three", wheelMesh(3), 2, 61, 48}, {"a wheel of four", wheelMesh(4), 1, 25, 16}, {"a strip of four", stripMesh(4), 1, 27, 16}, {"a cube", cubeMesh(), 1, 26, 24}, {"16 faces", torusMesh(4, 4), 1, 64, 64}, {"a quad and vertices that allow two steps", mesh(59, []int{5, 6, 7, 8}), 2, 80, 16}, {"a quad and vertices that allow one", mesh(60, []int{5, 6, 7, 8}), 1, 65, 4},
		{"17 faces", together(torusMesh(4, 4), quadMesh()), 0, 20, 17}, {"64 faces", torusMesh(8, 8), 0, 64, 64}, {"too many vertices", gridMesh(4, 4), 0, 25, 16}, {"a face, and most vertices", mesh(80, []int{0, 1, 2, 3}), 0, 80, 1}, {"not valid", mesh(81), -1, 0, 0}, {"not valid", withFace(quadMesh(), 0, 1, 2, 3), -1, 0, 0}, {"not valid", mesh(3, []int{0, 1, 2, 3}), -1, 0, 0},
	}
	for _, c := range cases {
		for _, n := range stepNumbers() {
			got, ok := impl.SubdivideN(c.m, n)
			if want := n >= 0 && n <= c.most; ok != want || !ok && !equalMeshes(got, impl.Mesh{}) {
				t.Errorf("%s: SubdivideN with n = %d returns %v, %v", c.name, n, got, ok)
			}
			if n == c.most && (len(got.Vertices) != c.vertices || len(got.Faces) != c.faces) {
				t.Errorf("%s: SubdivideN with n = %d returns %d vertices and %d faces", c.name, n, len(got.Vertices), len(got.Faces))
			}
		}
	}
}

func TestP15SubdivideNIsSubdivideRepeated(t *testing.T) {
	for _, base := range baseMeshes() {
		for _, m := range placements(base) {
			want, ok := m, true
			for n := 0; n <= 3; n++ {
				got, gotOk := impl.SubdivideN(m, n)
				if gotOk != ok || !equalMeshes(got, want) {
					t.Fatalf("SubdivideN(%v, %d) = %v, %v, not %v, %v", m, n, got, gotOk, want, ok)
				}
				if ok {
					want, ok = impl.Subdivide(want)
				}
			}
		}
	}
}

func TestP15InvalidMeshesAreNotSubdivided(t *testing.T) {
	for _, m := range invalidMeshes() {
		for _, f := range faceNumbers(m) {
			if impl.FacePoint(m, f) != (impl.Vec{}) {
				t.Fatalf("%v is not valid, but has a point for face %d", m, f)
			}
		}
		for _, v := range vertexNumbers(m) {
			if impl.VertexPoint(m, v) != (impl.Vec{}) || impl.EdgePoint(m, v, 0) != (impl.Vec{}) || impl.EdgePoint(m, 1, v) != (impl.Vec{}) {
				t.Fatalf("%v is not valid, but has a point for vertex %d or one of its edges", m, v)
			}
		}
		if fine, ok := impl.Subdivide(m); ok || !equalMeshes(fine, impl.Mesh{}) {
			t.Fatalf("%v is not valid, but is subdivided to %v, %v", m, fine, ok)
		}
		for _, n := range stepNumbers() {
			if fine, ok := impl.SubdivideN(m, n); ok || !equalMeshes(fine, impl.Mesh{}) {
				t.Fatalf("%v is not valid, but %d steps lead to %v, %v", m, n, fine, ok)
			}
		}
	}
}

func TestP15NilAndEmptySlicesAreSubdividedAlike(t *testing.T) {
	a := []int{0, 1, 2, 3}
	none, noVertices, noFaces := impl.Mesh{}, []impl.Vec{}, [][]int{}
	l := quadMesh().Vertices
	cases := [][]impl.Mesh{
		{none, {Vertices: noVertices}, {Faces: noFaces}, {Vertices: noVertices, Faces: noFaces}, {Vertices: make([]impl.Vec, 0, 9), Faces: make([][]int, 0, 9)}},
		{{Vertices: l}, {Vertices: l, Faces: noFaces}, {Vertices: l, Faces: make([][]int, 0, 9)}}, {{Faces: [][]int{a}}, {Vertices: noVertices, Faces: [][]int{a}}},
		{{Faces: [][]int{nil}}, {Faces: [][]int{{}}}}, {{Vertices: l, Faces: [][]int{nil}}, {Vertices: l, Faces: [][]int{{}}}}, {{Vertices: l, Faces: [][]int{a, nil}}, {Vertices: l, Faces: [][]int{a, {}}}, {Vertices: l, Faces: [][]int{a, make([]int, 0, 9)}}},
	}
	for _, meshes := range cases {
		for _, m := range meshes[1:] {
			if got, want := subdivisionText(m), subdivisionText(meshes[0]); got != want {
				t.Errorf("%#v has the results %s, but %#v has %s", m, got, meshes[0], want)
			}
		}
	}
}

func TestP15SubdivisionRepeatsItsResults(t *testing.T) {
	for _, m := range append(baseMeshes(), invalidMeshes()[:20]...) {
		want := subdivisionText(m)
		for range 2 {
			if got := subdivisionText(m); got != want {
				t.Fatalf("%v has the results %s after %s", m, got, want)
			}
		}
	}
	wheel := subdivisionText(wheelMesh(5))
	for range 100 {
		if got := subdivisionText(wheelMesh(5)); got != wheel {
			t.Fatalf("the wheel has the results %s after %s", got, wheel)
		}
	}
}

func TestP15SubdivisionChangesNothing(t *testing.T) {
	for _, whole := range append(baseMeshes(), invalidMeshes()...) {
		m, vertices, faces, numbers := roomyMesh(whole)
		before := fmt.Sprint(vertices, faces, numbers)
		if got, want := subdivisionText(m), subdivisionText(whole); got != want {
			t.Fatalf("%v has the results %s, not %s, with spare capacity behind its slices", whole, got, want)
		}
		if after := fmt.Sprint(vertices, faces, numbers); after != before {
			t.Fatalf("%v was changed, or what lies behind its slices: %s became %s", whole, before, after)
		}
	}
}

// overlapping has two faces whose slices share the memory of an index.
func overlapping() impl.Mesh {
	numbers := []int{0, 1, 2, 3, 4, 5, 6, 0}
	return mesh(7, numbers[:4], numbers[3:7])
}

func TestP15SubdivisionResultsAreNew(t *testing.T) {
	results := map[string]func(m impl.Mesh) (impl.Mesh, bool){"Subdivide": impl.Subdivide}
	for n := range 4 {
		results[fmt.Sprintf("SubdivideN with n = %d", n)] = func(m impl.Mesh) (impl.Mesh, bool) { return impl.SubdivideN(m, n) }
	}
	for name, result := range results {
		for _, whole := range append(baseMeshes(), overlapping()) {
			m, vertices, faces, numbers := roomyMesh(whole)
			before := fmt.Sprint(vertices, faces, numbers)
			kept, _ := result(m)
			changed, _ := result(m)
			want := copyOf(kept)
			for k, face := range changed.Faces {
				overwrite(face)
				if !equalPairs(changed.Faces[k+1:], want.Faces[k+1:]) {
					t.Fatalf("faces of a result of %s share memory: with face %d changed, they are %v, not %v", name, k, changed.Faces, want.Faces)
				}
			}
			clear(changed.Vertices[:cap(changed.Vertices)])
			clear(changed.Faces[:cap(changed.Faces)])
			if again, _ := result(m); !equalMeshes(kept, want) || !equalMeshes(again, want) || fmt.Sprint(vertices, faces, numbers) != before {
				t.Fatalf("a result of %s was overwritten, and an earlier one is %v, a later one %v, not %v, for %v", name, kept, again, want, m)
			}
		}
	}
}

func TestP15SubdivisionSeparatesFacesThatShareMemory(t *testing.T) {
	for n := range 2 {
		m := overlapping()
		before := fmt.Sprint(m)
		fine, ok := impl.SubdivideN(m, n)
		for k, face := range fine.Faces {
			want := fmt.Sprint(fine.Faces[k+1:])
			overwrite(face)
			if got := fmt.Sprint(fine.Faces[k+1:]); !ok || got != want || fmt.Sprint(m) != before {
				t.Errorf("with face %d of the result of %d steps changed, the others are %s, not %s, and the mesh is %v, not %s", k, n, got, want, m, before)
			}
		}
	}
}
