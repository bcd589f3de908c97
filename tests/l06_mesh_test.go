package tests

import (
	"fmt"
	"math"
	"slices"
	"testing"

	"loop.example/g00809/impl"
)

// mesh returns a mesh whose vertices differ in all their components, and along whose edges divisions are rounded.
func mesh(vertices int, faces ...[]int) impl.Mesh {
	var l []impl.Vec
	for i := range vertices {
		l = append(l, vec(37*i%101-50, 1000-61*i, 53*i*i%977))
	}
	return impl.Mesh{Vertices: l, Faces: faces}
}

func quadMesh() impl.Mesh {
	return mesh(4, []int{0, 1, 2, 3})
}

// cubeMesh numbers the corners by their bits: x is bit 0, y is bit 1 and z is bit 2.
func cubeMesh() impl.Mesh {
	m := impl.Mesh{Faces: [][]int{{0, 2, 3, 1}, {4, 5, 7, 6}, {0, 1, 5, 4}, {2, 6, 7, 3}, {0, 4, 6, 2}, {1, 3, 7, 5}}}
	for i := range 8 {
		m.Vertices = append(m.Vertices, vec(100*(i&1), 100*(i>>1&1), 100*(i>>2)))
	}
	return m
}

// stripMesh has n quads in a row.
func stripMesh(n int) impl.Mesh {
	m := mesh(2*n + 2)
	for k := 0; k < 2*n; k += 2 {
		m.Faces = append(m.Faces, []int{k, k + 2, k + 3, k + 1})
	}
	return m
}

// ringMesh is a strip of n quads whose ends are joined.
func ringMesh(n int) impl.Mesh {
	m := mesh(2 * n)
	for k := range n {
		next := (k + 1) % n
		m.Faces = append(m.Faces, []int{2 * k, 2 * next, 2*next + 1, 2*k + 1})
	}
	return m
}

// torusMesh is closed: its rows and its columns are rings.
func torusMesh(rows, columns int) impl.Mesh {
	m := mesh(rows * columns)
	at := func(row, column int) int { return row%rows*columns + column%columns }
	for i := range rows {
		for j := range columns {
			m.Faces = append(m.Faces, []int{at(i, j), at(i, j+1), at(i+1, j+1), at(i+1, j)})
		}
	}
	return m
}

func gridMesh(rows, columns int) impl.Mesh {
	m := mesh((rows + 1) * (columns + 1))
	for i := range rows {
		for j := range columns {
			k := i*(columns+1) + j
			m.Faces = append(m.Faces, []int{k, k + 1, k + columns + 2, k + columns + 1})
		}
	}
	return m
}

// wheelMesh has n quads around vertex 0.
func wheelMesh(n int) impl.Mesh {
	m := mesh(2*n + 1)
	for k := range n {
		m.Faces = append(m.Faces, []int{0, 2*k + 1, 2*k + 2, 2*((k+1)%n) + 1})
	}
	return m
}

// bothSides has one quad in both directions.
func bothSides() impl.Mesh {
	return mesh(4, []int{0, 1, 2, 3}, []int{3, 2, 1, 0})
}

// copyOf shares no memory with m.
func copyOf(m impl.Mesh) impl.Mesh {
	var faces [][]int
	for _, face := range m.Faces {
		faces = append(faces, slices.Clone(face))
	}
	return impl.Mesh{Vertices: slices.Clone(m.Vertices), Faces: faces}
}

// together has the two meshes as parts that share no vertex.
func together(a, b impl.Mesh) impl.Mesh {
	m, moved := copyOf(a), renumbered(b, func(v int) int { return v + len(a.Vertices) })
	m.Vertices = append(m.Vertices, b.Vertices...)
	m.Faces = append(m.Faces, moved.Faces...)
	return m
}

// renumbered changes only the indices in the faces.
func renumbered(m impl.Mesh, number func(v int) int) impl.Mesh {
	m = copyOf(m)
	for _, face := range m.Faces {
		for k := range face {
			face[k] = number(face[k])
		}
	}
	return m
}

func withVertex(m impl.Mesh, v impl.Vec) impl.Mesh {
	m = copyOf(m)
	m.Vertices = append(m.Vertices, v)
	return m
}

func withFace(m impl.Mesh, face ...int) impl.Mesh {
	m = copyOf(m)
	m.Faces = append(m.Faces, face)
	return m
}

// withIndex replaces index k of face f by n.
func withIndex(m impl.Mesh, f, k, n int) impl.Mesh {
	m = copyOf(m)
	m.Faces[f][k] = n
	return m
}

// validMeshes lists open, closed and empty meshes, of one part and of several, up to the greatest sizes.
func validMeshes() []impl.Mesh {
	l := []impl.Mesh{
		{}, {Vertices: []impl.Vec{}, Faces: [][]int{}}, mesh(1), mesh(3), mesh(80), quadMesh(), mesh(7, []int{6, 2, 0, 5}), cubeMesh(), bothSides(), withVertex(cubeMesh(), vec(1, 2, 3)),
		stripMesh(1), stripMesh(2), stripMesh(3), stripMesh(39), ringMesh(3), ringMesh(4), ringMesh(40), gridMesh(2, 2), gridMesh(3, 4), gridMesh(7, 9),
		torusMesh(3, 3), torusMesh(4, 5), torusMesh(8, 8), wheelMesh(2), wheelMesh(3), wheelMesh(5), wheelMesh(39),
		together(quadMesh(), quadMesh()), together(cubeMesh(), cubeMesh()), together(cubeMesh(), quadMesh()), together(mesh(3), cubeMesh()), together(ringMesh(3), torusMesh(3, 4)),
		mesh(7, []int{0, 1, 2, 3}, []int{3, 4, 5, 6}), mesh(6, []int{0, 1, 2, 3}, []int{2, 4, 0, 5}), mesh(80, []int{79, 0, 40, 1}),
	}
	for _, m := range slices.Clone(l) {
		n := len(m.Vertices)
		l = append(l, renumbered(m, func(v int) int { return n - 1 - v }))
	}
	return l
}

// invalidMeshes lists meshes in each of which one thing is wrong.
func invalidMeshes() []impl.Mesh {
	end, start := math.MaxInt, math.MinInt
	l := []impl.Mesh{
		mesh(81), mesh(500), withVertex(mesh(80, []int{0, 1, 2, 3}), impl.Vec{}), mesh(0, []int{0, 1, 2, 3}), mesh(3, []int{0, 1, 2, 3}),
		withFace(together(torusMesh(8, 8), mesh(4)), 64, 65, 66, 67), torusMesh(13, 5), torusMesh(8, 9), torusMesh(8, 10),
		mesh(4, nil), mesh(4, []int{}), mesh(0, nil), mesh(4, []int{0}), mesh(4, []int{0, 1}), mesh(4, []int{0, 1, 2}), mesh(5, []int{0, 1, 2, 3, 4}), mesh(9, []int{0, 1, 2, 3, 4, 5, 6, 7}),
		withFace(cubeMesh()), withFace(withVertex(cubeMesh(), impl.Vec{}), 0, 7, 8), withFace(together(cubeMesh(), mesh(5)), 8, 9, 10, 11, 12),
		mesh(4, []int{0, 1, 2, 0}), mesh(4, []int{0, 0, 1, 2}), mesh(4, []int{1, 0, 0, 2}), mesh(4, []int{1, 2, 0, 0}), mesh(4, []int{0, 1, 0, 2}), mesh(4, []int{1, 0, 2, 0}), mesh(4, []int{3, 3, 3, 3}),
		mesh(4, []int{0, 1, 2, 3}, []int{0, 1, 2, 3}), mesh(4, []int{0, 1, 2, 3}, []int{2, 3, 0, 1}), mesh(6, []int{0, 1, 2, 3}, []int{4, 5, 0, 1}), mesh(6, []int{0, 1, 2, 3}, []int{3, 0, 4, 5}),
		mesh(6, []int{0, 1, 2, 3}, []int{0, 1, 4, 5}), mesh(6, []int{0, 1, 2, 3}, []int{0, 4, 5, 3}, []int{1, 2, 5, 4}), wheelMesh(1), withFace(cubeMesh(), 0, 2, 3, 1), withFace(cubeMesh(), 6, 7, 5, 4),
		withFace(together(cubeMesh(), mesh(2)), 0, 1, 8, 9), withFace(stripMesh(38), 78, 77, 76, 3), withFace(torusMesh(3, 3), 0, 1, 5, 7),
	}
	for _, whole := range []impl.Mesh{quadMesh(), cubeMesh(), torusMesh(8, 8)} {
		for _, f := range []int{0, len(whole.Faces) - 1} {
			for k := range 4 {
				for _, n := range []int{-1, -2, len(whole.Vertices), len(whole.Vertices) + 1, 80, 81, 1 << 32, end, end - 1, start, start + 1} {
					l = append(l, withIndex(whole, f, k, n))
				}
			}
		}
	}
	for _, whole := range []impl.Mesh{mesh(1), mesh(5, []int{0, 1, 2, 3}), cubeMesh()} {
		for v := range whole.Vertices {
			for component := range 3 {
				for _, n := range []int{1000001, -1000001, end, start} {
					bad := copyOf(whole)
					bad.Vertices[v] = withComponent(bad.Vertices[v], component, n)
					l = append(l, bad)
				}
			}
		}
	}
	return l
}

// orientedFaces lists all faces on the given number of vertices, each with its least index first.
func orientedFaces(vertices int) [][]int {
	var l [][]int
	for a := range vertices {
		for b := a + 1; b < vertices; b++ {
			for c := a + 1; c < vertices; c++ {
				for d := a + 1; d < vertices; d++ {
					if b != c && b != d && c != d {
						l = append(l, []int{a, b, c, d})
					}
				}
			}
		}
	}
	return l
}

// turnedFace lists the same directed edges, starting k vertices later.
func turnedFace(face []int, k int) []int {
	return append(slices.Clone(face[k:]), face[:k]...)
}

// smallMeshes lists meshes of two and three faces on five vertices: all that differ in more than the numbers of the faces or where a face starts, and of two faces also some of those. Most are not valid.
func smallMeshes() []impl.Mesh {
	var l []impl.Mesh
	faces := orientedFaces(5)
	for i, a := range faces {
		for j, b := range faces {
			for k := range 4 {
				l = append(l, mesh(5, a, turnedFace(b, k)))
			}
			if j < i {
				continue
			}
			for _, c := range faces[j:] {
				l = append(l, mesh(5, c, b, a))
			}
		}
	}
	return l
}

func hasDirectedEdge(face []int, a, b int) bool {
	for k := range face {
		if face[k] == a && face[(k+1)%len(face)] == b {
			return true
		}
	}
	return false
}

// wantValidMesh and the functions after it follow the document by comparing everything with everything; they use none of the program's functions.
func wantValidMesh(m impl.Mesh) bool {
	if len(m.Vertices) > 80 || len(m.Faces) > 64 {
		return false
	}
	for _, v := range m.Vertices {
		if v != clampedVec(v) {
			return false
		}
	}
	for f, face := range m.Faces {
		if len(face) != 4 {
			return false
		}
		for k, a := range face {
			b := face[(k+1)%4]
			if a < 0 || a >= len(m.Vertices) || a == b || a == face[(k+2)%4] {
				return false
			}
			for _, other := range m.Faces[:f] {
				if hasDirectedEdge(other, a, b) {
					return false
				}
			}
		}
	}
	return true
}

// wantSeen returns what the other functions see of m: they treat a mesh that is not valid as the empty one.
func wantSeen(m impl.Mesh) impl.Mesh {
	if !wantValidMesh(m) {
		return impl.Mesh{}
	}
	return m
}

func wantEdgeFaces(seen impl.Mesh, a, b int) []int {
	var l []int
	for f, face := range seen.Faces {
		if hasDirectedEdge(face, a, b) || hasDirectedEdge(face, b, a) {
			l = append(l, f)
		}
	}
	return l
}

// wantEdges lists the edges that have from least to most faces.
func wantEdges(seen impl.Mesh, least, most int) [][]int {
	var l [][]int
	for a := range seen.Vertices {
		for b := a + 1; b < len(seen.Vertices); b++ {
			if n := len(wantEdgeFaces(seen, a, b)); n >= least && n <= most {
				l = append(l, []int{a, b})
			}
		}
	}
	return l
}

func wantNeighbors(seen impl.Mesh, v int) []int {
	var l []int
	for w := range seen.Vertices {
		if len(wantEdgeFaces(seen, v, w)) > 0 {
			l = append(l, w)
		}
	}
	return l
}

func wantVertexFaces(seen impl.Mesh, v int) []int {
	var l []int
	for f, face := range seen.Faces {
		if slices.Contains(face, v) {
			l = append(l, f)
		}
	}
	return l
}

func wantEuler(seen impl.Mesh) int {
	n := len(seen.Faces) - len(wantEdges(seen, 1, 2))
	for v := range seen.Vertices {
		if len(wantVertexFaces(seen, v)) > 0 {
			n++
		}
	}
	return n
}

func wantPatches(seen impl.Mesh) []impl.Patch {
	var l []impl.Patch
	for _, f := range seen.Faces {
		v := seen.Vertices
		l = append(l, patch(v[f[0]], v[f[1]], v[f[3]], v[f[2]]))
	}
	return l
}

func equalPairs(a, b [][]int) bool {
	return slices.EqualFunc(a, b, slices.Equal[[]int])
}

// vertexNumbers lists the indices of all vertices and numbers that are none.
func vertexNumbers(m impl.Mesh) []int {
	n := len(m.Vertices)
	l := []int{-1, -2, n, n + 1, math.MinInt, math.MinInt + 1, math.MaxInt}
	for v := range min(n, 90) {
		l = append(l, v)
	}
	return l
}

// checkMesh compares all functions but EdgeFaces, which wants all pairs of vertices, with what the document says of m.
func checkMesh(t *testing.T, m impl.Mesh) {
	t.Helper()
	seen := wantSeen(m)
	edges, boundary := wantEdges(seen, 1, 2), wantEdges(seen, 1, 1)
	if got, want := impl.IsValidMesh(m), wantValidMesh(m); got != want {
		t.Fatalf("IsValidMesh(%v) = %v", m, got)
	}
	if got := impl.Edges(m); !equalPairs(got, edges) {
		t.Fatalf("Edges(%v) = %v, not %v", m, got, edges)
	}
	if got := impl.BoundaryEdges(m); !equalPairs(got, boundary) {
		t.Fatalf("BoundaryEdges(%v) = %v, not %v", m, got, boundary)
	}
	if got, want := impl.IsClosed(m), len(seen.Faces) > 0 && len(boundary) == 0; got != want {
		t.Fatalf("IsClosed(%v) = %v", m, got)
	}
	if got, want := impl.EulerCharacteristic(m), wantEuler(seen); got != want {
		t.Fatalf("EulerCharacteristic(%v) = %d, not %d", m, got, want)
	}
	if got, want := impl.FacePatches(m), wantPatches(seen); !slices.Equal(got, want) {
		t.Fatalf("FacePatches(%v) = %v, not %v", m, got, want)
	}
	for _, v := range vertexNumbers(m) {
		if got, want := impl.Neighbors(m, v), wantNeighbors(seen, v); !slices.Equal(got, want) {
			t.Fatalf("Neighbors(%v, %d) = %v, not %v", m, v, got, want)
		}
		if got, want := impl.VertexFaces(m, v), wantVertexFaces(seen, v); !slices.Equal(got, want) {
			t.Fatalf("VertexFaces(%v, %d) = %v, not %v", m, v, got, want)
		}
	}
}

func checkEdgeFaces(t *testing.T, m impl.Mesh) {
	t.Helper()
	seen := wantSeen(m)
	for _, a := range vertexNumbers(m) {
		for _, b := range vertexNumbers(m) {
			if got, want := impl.EdgeFaces(m, a, b), wantEdgeFaces(seen, a, b); !slices.Equal(got, want) {
				t.Fatalf("EdgeFaces(%v, %d, %d) = %v, not %v", m, a, b, got, want)
			}
		}
	}
}

// meshText writes all results of chapter 7 for m; fmt writes a nil slice as it writes an empty one.
func meshText(m impl.Mesh) string {
	text := fmt.Sprintln(impl.IsValidMesh(m), impl.Edges(m), impl.BoundaryEdges(m), impl.IsClosed(m), impl.EulerCharacteristic(m), impl.FacePatches(m))
	for v := -1; v <= len(m.Vertices); v++ {
		text += fmt.Sprintln(v, impl.Neighbors(m, v), impl.VertexFaces(m, v), impl.EdgeFaces(m, v, v+1), impl.EdgeFaces(m, v+1, v), impl.EdgeFaces(m, 0, v))
	}
	return text
}

// sidePoint returns point i of n on the way from vertex k of a face to the next one, on the patch of this face.
func sidePoint(p impl.Patch, k, i, n int) impl.Vec {
	switch k {
	case 0:
		return impl.EvalPatch(p, i, 0, n)
	case 1:
		return impl.EvalPatch(p, n, i, n)
	case 2:
		return impl.EvalPatch(p, n-i, n, n)
	}
	return impl.EvalPatch(p, 0, n-i, n)
}

func TestP3PatchesOfFacesShareTheirEdges(t *testing.T) {
	for _, m := range validMeshes() {
		patches := impl.FacePatches(m)
		for _, pair := range impl.Edges(m) {
			faces := impl.EdgeFaces(m, pair[0], pair[1])
			for _, n := range []int{1, 2, 3, 7, 16, 63, 64} {
				for i := range n + 1 {
					want := impl.Lerp(m.Vertices[pair[0]], m.Vertices[pair[1]], i, n)
					for _, f := range faces {
						k := slices.Index(m.Faces[f], pair[0])
						forth := sidePoint(patches[f], k, i, n)
						back := sidePoint(patches[f], (k+3)%4, n-i, n)
						forward := m.Faces[f][(k+1)%4] == pair[1]
						if forward && forth != want || !forward && back != want {
							t.Fatalf("the patches of %v have a crack at %d of %d on the edge %v of face %d", m.Faces, i, n, pair, f)
						}
					}
				}
			}
		}
	}
}

func TestP3PatchesHaveTheVerticesOfTheirFace(t *testing.T) {
	for _, m := range validMeshes() {
		patches := impl.FacePatches(m)
		if len(patches) != len(m.Faces) {
			t.Fatalf("%v has %d patches", m, len(patches))
		}
		for f, p := range patches {
			for k, v := range m.Faces[f] {
				if got := sidePoint(p, k, 0, 5); got != m.Vertices[v] {
					t.Errorf("face %d of %v has the vertex %v, but its patch has %v there", f, m.Faces, m.Vertices[v], got)
				}
			}
		}
	}
}

func TestP3CountsAgree(t *testing.T) {
	for _, m := range validMeshes() {
		edges, boundary := impl.Edges(m), impl.BoundaryEdges(m)
		sides, ends, corners := 0, 0, 0
		for _, pair := range edges {
			sides += len(impl.EdgeFaces(m, pair[0], pair[1]))
		}
		for v := range m.Vertices {
			ends += len(impl.Neighbors(m, v))
			corners += len(impl.VertexFaces(m, v))
		}
		if sides != 4*len(m.Faces) || corners != 4*len(m.Faces) || ends != 2*len(edges) {
			t.Errorf("the %d faces of %v have %d sides and %d corners, and its %d edges have %d ends", len(m.Faces), m.Faces, sides, corners, len(edges), ends)
		}
		if 2*len(edges)-len(boundary) != sides || impl.IsClosed(m) != (len(m.Faces) > 0 && 2*len(edges) == sides) {
			t.Errorf("%v has %d edges, %d boundary edges and %d sides, and closed is %v", m.Faces, len(edges), len(boundary), sides, impl.IsClosed(m))
		}
	}
}

// A face leaves each of its vertices as often as it enters it, and so does the boundary.
func TestP3BoundariesHaveNoEnds(t *testing.T) {
	for _, m := range append(validMeshes(), smallMeshes()...) {
		ends := map[int]int{}
		for _, pair := range impl.BoundaryEdges(m) {
			ends[pair[0]]++
			ends[pair[1]]++
		}
		for v, n := range ends {
			if n%2 != 0 {
				t.Fatalf("%d boundary edges of %v meet in vertex %d", n, m.Faces, v)
			}
		}
	}
}

func TestP3NeighborsAreMutual(t *testing.T) {
	for _, m := range validMeshes() {
		for v := range m.Vertices {
			for _, w := range impl.Neighbors(m, v) {
				shared := impl.EdgeFaces(m, v, w)
				if !slices.Contains(impl.Neighbors(m, w), v) || !slices.ContainsFunc(impl.Edges(m), func(pair []int) bool { return slices.Equal(pair, []int{min(v, w), max(v, w)}) }) {
					t.Fatalf("%d is a neighbor of %d in %v, but not the other way around", w, v, m.Faces)
				}
				for _, f := range shared {
					if !slices.Contains(impl.VertexFaces(m, v), f) || !slices.Contains(impl.VertexFaces(m, w), f) {
						t.Fatalf("face %d of %v is at the edge from %d to %d, but not at both of its ends", f, m.Faces, v, w)
					}
				}
			}
		}
	}
}

func TestP3TopologyDoesNotDependOnTheStartOfFaces(t *testing.T) {
	for _, m := range validMeshes() {
		turned := copyOf(m)
		for f, face := range turned.Faces {
			turned.Faces[f] = turnedFace(face, f%3+1)
		}
		if !impl.IsValidMesh(turned) || !equalPairs(impl.Edges(turned), impl.Edges(m)) || !equalPairs(impl.BoundaryEdges(turned), impl.BoundaryEdges(m)) || impl.EulerCharacteristic(turned) != impl.EulerCharacteristic(m) {
			t.Errorf("%v has another topology than %v", turned.Faces, m.Faces)
		}
		for v := range m.Vertices {
			if !slices.Equal(impl.Neighbors(turned, v), impl.Neighbors(m, v)) || !slices.Equal(impl.VertexFaces(turned, v), impl.VertexFaces(m, v)) {
				t.Errorf("vertex %d has other neighbors or faces in %v than in %v", v, turned.Faces, m.Faces)
			}
		}
	}
}

func TestP3TopologyDoesNotDependOnTheOrderOrDirectionOfFaces(t *testing.T) {
	for _, m := range validMeshes() {
		reordered, mirrored := copyOf(m), copyOf(m)
		slices.Reverse(reordered.Faces)
		for _, face := range mirrored.Faces {
			slices.Reverse(face)
		}
		for _, other := range []impl.Mesh{reordered, mirrored} {
			if !impl.IsValidMesh(other) || !equalPairs(impl.Edges(other), impl.Edges(m)) || !equalPairs(impl.BoundaryEdges(other), impl.BoundaryEdges(m)) || impl.EulerCharacteristic(other) != impl.EulerCharacteristic(m) || impl.IsClosed(other) != impl.IsClosed(m) {
				t.Errorf("%v has another topology than %v", other.Faces, m.Faces)
			}
			for v := range m.Vertices {
				if !slices.Equal(impl.Neighbors(other, v), impl.Neighbors(m, v)) || len(impl.VertexFaces(other, v)) != len(impl.VertexFaces(m, v)) {
					t.Errorf("vertex %d has other neighbors or faces in %v than in %v", v, other.Faces, m.Faces)
				}
			}
		}
	}
}

func TestP3TopologyDoesNotDependOnTheNumbersOfVertices(t *testing.T) {
	for _, m := range validMeshes() {
		n := len(m.Vertices)
		for _, factor := range []int{1, 7, 11, 13} {
			number := func(v int) int { return (factor*v + 3) % n }
			if n > 0 && n%factor == 0 && factor > 1 {
				continue
			}
			other := renumbered(m, number)
			if !impl.IsValidMesh(other) || impl.EulerCharacteristic(other) != impl.EulerCharacteristic(m) || impl.IsClosed(other) != impl.IsClosed(m) || len(impl.Edges(other)) != len(impl.Edges(m)) || len(impl.BoundaryEdges(other)) != len(impl.BoundaryEdges(m)) {
				t.Errorf("%v has another topology than %v", other.Faces, m.Faces)
			}
			for v := range n {
				var want []int
				for _, w := range impl.Neighbors(m, v) {
					want = append(want, number(w))
				}
				slices.Sort(want)
				if got := impl.Neighbors(other, number(v)); !slices.Equal(got, want) || !slices.Equal(impl.VertexFaces(other, number(v)), impl.VertexFaces(m, v)) {
					t.Errorf("vertex %d of %v has the neighbors %v, not %v, or other faces", number(v), other.Faces, got, want)
				}
			}
		}
	}
}

func TestP3TopologyOfPartsIsTheirSum(t *testing.T) {
	for _, a := range validMeshes() {
		for _, b := range validMeshes() {
			m := together(a, b)
			if len(m.Vertices) > 80 || len(m.Faces) > 64 {
				continue
			}
			if !impl.IsValidMesh(m) || impl.EulerCharacteristic(m) != impl.EulerCharacteristic(a)+impl.EulerCharacteristic(b) || len(impl.Edges(m)) != len(impl.Edges(a))+len(impl.Edges(b)) || len(impl.BoundaryEdges(m)) != len(impl.BoundaryEdges(a))+len(impl.BoundaryEdges(b)) {
				t.Errorf("%v is not the sum of its two parts", m.Faces)
			}
			if !slices.Equal(impl.FacePatches(m), append(impl.FacePatches(a), impl.FacePatches(b)...)) {
				t.Errorf("the patches of %v are not those of its two parts", m.Faces)
			}
		}
	}
}

// quartered divides every face of m into four, with a new vertex on every edge and in every face.
func quartered(m impl.Mesh) impl.Mesh {
	edges := impl.Edges(m)
	onEdge := func(a, b int) int {
		return len(m.Vertices) + slices.IndexFunc(edges, func(pair []int) bool { return slices.Equal(pair, []int{min(a, b), max(a, b)}) })
	}
	fine := mesh(len(m.Vertices) + len(edges) + len(m.Faces))
	for f, face := range m.Faces {
		for k, v := range face {
			fine.Faces = append(fine.Faces, []int{v, onEdge(v, face[(k+1)%4]), len(m.Vertices) + len(edges) + f, onEdge(face[(k+3)%4], v)})
		}
	}
	return fine
}

func TestP3QuarteredMeshesKeepTheirTopology(t *testing.T) {
	count := 0
	for _, m := range append(validMeshes(), torusMesh(4, 4), wheelMesh(7)) {
		fine := quartered(m)
		if len(fine.Vertices) > 80 || len(fine.Faces) > 64 {
			continue
		}
		count++
		if !impl.IsValidMesh(fine) || impl.EulerCharacteristic(fine) != impl.EulerCharacteristic(m) || impl.IsClosed(fine) != impl.IsClosed(m) || len(impl.BoundaryEdges(fine)) != 2*len(impl.BoundaryEdges(m)) {
			t.Errorf("quartering %v changes its topology", m.Faces)
		}
		for v := range m.Vertices {
			if len(impl.Neighbors(fine, v)) != len(impl.Neighbors(m, v)) || len(impl.VertexFaces(fine, v)) != len(impl.VertexFaces(m, v)) {
				t.Errorf("quartering %v changes what meets in vertex %d", m.Faces, v)
			}
		}
	}
	if count < 30 {
		t.Errorf("only %d meshes were quartered", count)
	}
}

func TestP15MeshFunctions(t *testing.T) {
	for _, m := range append(validMeshes(), invalidMeshes()...) {
		checkMesh(t, m)
	}
	for _, m := range smallMeshes() {
		checkMesh(t, m)
	}
}

func TestP15IsValidMesh(t *testing.T) {
	if impl.MaxVertices != 80 || impl.MaxFaces != 64 {
		t.Errorf("MaxVertices is %d and MaxFaces is %d", impl.MaxVertices, impl.MaxFaces)
	}
	for _, m := range validMeshes() {
		if !impl.IsValidMesh(m) {
			t.Errorf("%v is not valid", m)
		}
	}
	for _, m := range invalidMeshes() {
		if impl.IsValidMesh(m) {
			t.Errorf("%v is valid", m)
		}
	}
	// All faces whose indices are from -1 to one too many.
	for a := -1; a < 6; a++ {
		for b := -1; b < 6; b++ {
			for c := -1; c < 6; c++ {
				for d := -1; d < 6; d++ {
					m := mesh(5, []int{a, b, c, d})
					if got, want := impl.IsValidMesh(m), wantValidMesh(m); got != want {
						t.Errorf("IsValidMesh(%v) = %v", m, got)
					}
				}
			}
		}
	}
}

func TestP15IsValidMeshAtTheEndsOfTheRange(t *testing.T) {
	for _, whole := range []impl.Mesh{mesh(1), quadMesh(), mesh(5, []int{0, 1, 2, 3}), cubeMesh(), mesh(80)} {
		for _, v := range []int{0, len(whole.Vertices) / 2, len(whole.Vertices) - 1} {
			for component := range 3 {
				for n, want := range map[int]bool{
					0: true, 1000000: true, -1000000: true, 1000001: false, -1000001: false, math.MaxInt: false, math.MinInt: false,
				} {
					m := copyOf(whole)
					m.Vertices[v] = withComponent(m.Vertices[v], component, n)
					if got := impl.IsValidMesh(m); got != want {
						t.Errorf("IsValidMesh(%v) = %v", m, got)
					}
				}
			}
		}
	}
	for n := 78; n <= 82; n++ {
		for _, m := range []impl.Mesh{mesh(n), mesh(n, []int{n - 1, 0, n - 2, 1})} {
			if got := impl.IsValidMesh(m); got != (n <= 80) {
				t.Errorf("IsValidMesh with %d vertices and %d faces is %v", n, len(m.Faces), got)
			}
		}
	}
	torus := together(torusMesh(9, 7), mesh(8))
	for n, faces := 63, [][]int{{63, 64, 65, 66}, {67, 68, 69, 70}}; n <= 65; n++ {
		m := copyOf(torus)
		m.Faces = append(m.Faces, faces[:n-63]...)
		if got := impl.IsValidMesh(m); len(m.Faces) != n || got != (n <= 64) {
			t.Errorf("IsValidMesh with %d faces is %v", len(m.Faces), got)
		}
	}
}

func TestP15IsValidMeshCases(t *testing.T) {
	a := []int{0, 1, 2, 3}
	cases := []struct {
		name string
		m    impl.Mesh
		want bool
	}{
		{"the same directed edge in two faces", mesh(6, a, []int{0, 1, 4, 5}), false}, {"an edge in both directions", mesh(6, a, []int{1, 0, 4, 5}), true},
		{"the directed edge that closes a face, again", mesh(6, a, []int{3, 0, 4, 5}), false}, {"the same edge, closing both faces", mesh(6, a, []int{0, 4, 5, 3}), false}, {"the other direction of it", mesh(6, a, []int{0, 3, 4, 5}), true},
		{"only one vertex in common", mesh(7, a, []int{3, 4, 5, 6}), true}, {"two opposite vertices in common", mesh(6, a, []int{2, 4, 0, 5}), true}, {"no vertex in common", mesh(8, a, []int{4, 5, 6, 7}), true},
		{"the same face twice", mesh(4, a, a), false}, {"the same face twice, turned", mesh(4, a, []int{1, 2, 3, 0}), false}, {"the same face in both directions", bothSides(), true}, {"both directions, turned", mesh(4, a, []int{1, 0, 3, 2}), true},
		{"three faces at an edge", mesh(8, a, []int{1, 0, 4, 5}, []int{0, 1, 6, 7}), false}, {"three faces at an edge, the other way around", mesh(8, a, []int{1, 0, 4, 5}, []int{1, 0, 6, 7}), false},
		{"the same vertices in another order", mesh(4, a, []int{0, 2, 1, 3}), false}, {"two faces, a diagonal of one being an edge of the other", mesh(6, a, []int{0, 2, 4, 5}), true},
		{"equal vertices", impl.Mesh{Vertices: make([]impl.Vec, 4), Faces: [][]int{a}}, true}, {"vertices, but no face", mesh(4), true}, {"no vertex", impl.Mesh{}, true}, {"a face, but no vertex", impl.Mesh{Faces: [][]int{a}}, false},
		{"a nil face", impl.Mesh{Faces: [][]int{nil}}, false}, {"an empty face", mesh(4, a, []int{}), false}, {"three indices", mesh(4, a[:3]), false}, {"five indices", mesh(5, []int{0, 1, 2, 3, 4}), false}, {"five indices, one repeated", mesh(4, []int{0, 1, 2, 3, 0}), false},
	}
	for _, c := range cases {
		if got := impl.IsValidMesh(c.m); got != c.want {
			t.Errorf("%s: IsValidMesh(%v) = %v", c.name, c.m, got)
		}
	}
}

func TestP15EdgesCases(t *testing.T) {
	cube := [][]int{{0, 1}, {0, 2}, {0, 4}, {1, 3}, {1, 5}, {2, 3}, {2, 6}, {3, 7}, {4, 5}, {4, 6}, {5, 7}, {6, 7}}
	cases := []struct {
		m               impl.Mesh
		edges, boundary [][]int
	}{
		{impl.Mesh{}, nil, nil}, {mesh(80), nil, nil}, {cubeMesh(), cube, nil}, {bothSides(), [][]int{{0, 1}, {0, 3}, {1, 2}, {2, 3}}, nil},
		{quadMesh(), [][]int{{0, 1}, {0, 3}, {1, 2}, {2, 3}}, [][]int{{0, 1}, {0, 3}, {1, 2}, {2, 3}}},
		{mesh(80, []int{79, 10, 9, 2}), [][]int{{2, 9}, {2, 79}, {9, 10}, {10, 79}}, [][]int{{2, 9}, {2, 79}, {9, 10}, {10, 79}}},
		{stripMesh(3), [][]int{{0, 1}, {0, 2}, {1, 3}, {2, 3}, {2, 4}, {3, 5}, {4, 5}, {4, 6}, {5, 7}, {6, 7}}, [][]int{{0, 1}, {0, 2}, {1, 3}, {2, 4}, {3, 5}, {4, 6}, {5, 7}, {6, 7}}},
		{ringMesh(3), [][]int{{0, 1}, {0, 2}, {0, 4}, {1, 3}, {1, 5}, {2, 3}, {2, 4}, {3, 5}, {4, 5}}, [][]int{{0, 2}, {0, 4}, {1, 3}, {1, 5}, {2, 4}, {3, 5}}},
		{mesh(7, []int{0, 1, 2, 3}, []int{3, 4, 5, 6}), [][]int{{0, 1}, {0, 3}, {1, 2}, {2, 3}, {3, 4}, {3, 6}, {4, 5}, {5, 6}}, [][]int{{0, 1}, {0, 3}, {1, 2}, {2, 3}, {3, 4}, {3, 6}, {4, 5}, {5, 6}}},
	}
	for _, c := range cases {
		if got := impl.Edges(c.m); !equalPairs(got, c.edges) {
			t.Errorf("Edges(%v) = %v, not %v", c.m, got, c.edges)
		}
		if got := impl.BoundaryEdges(c.m); !equalPairs(got, c.boundary) {
			t.Errorf("BoundaryEdges(%v) = %v, not %v", c.m, got, c.boundary)
		}
	}
}

func TestP15EdgeFaces(t *testing.T) {
	for _, m := range append(validMeshes(), bothSides(), mesh(81), mesh(5, []int{0, 1, 2, 3}, []int{4, 0, 1, 2}), withFace(cubeMesh(), 0, 2, 3, 1)) {
		if len(m.Vertices) < 40 {
			checkEdgeFaces(t, m)
		}
	}
	checkEdgeFaces(t, torusMesh(8, 8))
	for i, m := range smallMeshes() {
		if i%7 == 0 {
			checkEdgeFaces(t, m)
		}
	}
}

func TestP15EdgeFacesCases(t *testing.T) {
	cube, strip, torus := cubeMesh(), stripMesh(3), torusMesh(3, 3)
	invalid := withFace(cube, 0, 2, 3, 1)
	end, start := math.MaxInt, math.MinInt
	cases := []struct {
		m    impl.Mesh
		a, b int
		want []int
	}{
		{cube, 0, 1, []int{0, 2}}, {cube, 0, 2, []int{0, 4}}, {cube, 0, 4, []int{2, 4}}, {cube, 1, 3, []int{0, 5}}, {cube, 1, 5, []int{2, 5}}, {cube, 2, 3, []int{0, 3}}, {cube, 2, 6, []int{3, 4}}, {cube, 3, 7, []int{3, 5}}, {cube, 4, 5, []int{1, 2}}, {cube, 4, 6, []int{1, 4}}, {cube, 5, 7, []int{1, 5}}, {cube, 6, 7, []int{1, 3}},
		{cube, 0, 3, nil}, {cube, 1, 2, nil}, {cube, 0, 7, nil}, {cube, 0, 0, nil}, {cube, 7, 7, nil}, {cube, -1, 0, nil}, {cube, 7, 8, nil}, {cube, 8, 8, nil}, {cube, -1, -1, nil}, {cube, start, end, nil}, {cube, end, 0, nil}, {cube, start, 1, nil},
		{strip, 0, 1, []int{0}}, {strip, 0, 2, []int{0}}, {strip, 2, 3, []int{0, 1}}, {strip, 4, 5, []int{1, 2}}, {strip, 5, 7, []int{2}}, {strip, 0, 3, nil}, {strip, 1, 2, nil}, {strip, 0, 6, nil}, {strip, 2, 2, nil},
		{bothSides(), 0, 3, []int{0, 1}}, {bothSides(), 1, 2, []int{0, 1}}, {bothSides(), 0, 2, nil}, {torus, 0, 2, []int{2, 8}}, {torus, 0, 6, []int{6, 8}}, {torus, 0, 8, nil},
		{invalid, 0, 1, nil}, {invalid, 4, 5, nil}, {impl.Mesh{}, 0, 1, nil}, {impl.Mesh{}, 0, 0, nil}, {mesh(80), 78, 79, nil},
	}
	for _, c := range cases {
		if got := impl.EdgeFaces(c.m, c.a, c.b); !slices.Equal(got, c.want) {
			t.Errorf("EdgeFaces(%v, %d, %d) = %v, not %v", c.m, c.a, c.b, got, c.want)
		}
		if got := impl.EdgeFaces(c.m, c.b, c.a); !slices.Equal(got, c.want) {
			t.Errorf("EdgeFaces(%v, %d, %d) = %v, not %v", c.m, c.b, c.a, got, c.want)
		}
	}
}

func TestP15IsClosedCases(t *testing.T) {
	open := cubeMesh()
	open.Faces = open.Faces[:5]
	cases := []struct {
		m    impl.Mesh
		want bool
	}{
		{cubeMesh(), true}, {open, false}, {quadMesh(), false}, {impl.Mesh{}, false}, {mesh(8), false}, {bothSides(), true}, {torusMesh(3, 3), true}, {torusMesh(8, 8), true}, {ringMesh(3), false}, {stripMesh(4), false},
		{together(cubeMesh(), cubeMesh()), true}, {together(cubeMesh(), quadMesh()), false}, {together(quadMesh(), cubeMesh()), false}, {withVertex(cubeMesh(), vec(1, 2, 3)), true},
		{withVertex(cubeMesh(), vec(0, 1000001, 0)), false}, {withFace(cubeMesh(), 0, 1, 5, 4), false}, {withFace(cubeMesh()), false}, {torusMesh(13, 5), false}, {torusMesh(9, 9), false},
	}
	for _, c := range cases {
		if got := impl.IsClosed(c.m); got != c.want {
			t.Errorf("IsClosed(%v) = %v", c.m, got)
		}
	}
}

func TestP15NeighborsAndVertexFacesCases(t *testing.T) {
	cube, strip, wheel, apart := cubeMesh(), stripMesh(3), wheelMesh(5), withVertex(cubeMesh(), vec(1, 2, 3))
	invalid := withFace(apart, 0, 7, 8)
	cases := []struct {
		m                impl.Mesh
		v                int
		neighbors, faces []int
	}{
		{quadMesh(), 0, []int{1, 3}, []int{0}}, {quadMesh(), 2, []int{1, 3}, []int{0}}, {quadMesh(), 3, []int{0, 2}, []int{0}}, {bothSides(), 0, []int{1, 3}, []int{0, 1}},
		{strip, 0, []int{1, 2}, []int{0}}, {strip, 1, []int{0, 3}, []int{0}}, {strip, 2, []int{0, 3, 4}, []int{0, 1}}, {strip, 3, []int{1, 2, 5}, []int{0, 1}}, {strip, 5, []int{3, 4, 7}, []int{1, 2}}, {strip, 7, []int{5, 6}, []int{2}},
		{cube, 0, []int{1, 2, 4}, []int{0, 2, 4}}, {cube, 3, []int{1, 2, 7}, []int{0, 3, 5}}, {cube, 6, []int{2, 4, 7}, []int{1, 3, 4}}, {cube, 7, []int{3, 5, 6}, []int{1, 3, 5}},
		{wheel, 0, []int{1, 3, 5, 7, 9}, []int{0, 1, 2, 3, 4}}, {wheel, 1, []int{0, 2, 10}, []int{0, 4}}, {wheel, 2, []int{1, 3}, []int{0}}, {wheel, 9, []int{0, 8, 10}, []int{3, 4}}, {gridMesh(2, 2), 4, []int{1, 3, 5, 7}, []int{0, 1, 2, 3}},
		{apart, 8, nil, nil}, {apart, 9, nil, nil}, {cube, 8, nil, nil}, {cube, -1, nil, nil}, {cube, math.MinInt, nil, nil}, {cube, math.MaxInt, nil, nil}, {mesh(3), 1, nil, nil}, {impl.Mesh{}, 0, nil, nil},
		{invalid, 0, nil, nil}, {invalid, 7, nil, nil}, {mesh(4, []int{0, 1, 2, 3}, []int{0, 1, 2, 3}), 0, nil, nil}, {mesh(81, []int{0, 1, 2, 3}), 0, nil, nil},
	}
	for _, c := range cases {
		if got := impl.Neighbors(c.m, c.v); !slices.Equal(got, c.neighbors) {
			t.Errorf("Neighbors(%v, %d) = %v, not %v", c.m, c.v, got, c.neighbors)
		}
		if got := impl.VertexFaces(c.m, c.v); !slices.Equal(got, c.faces) {
			t.Errorf("VertexFaces(%v, %d) = %v, not %v", c.m, c.v, got, c.faces)
		}
	}
}

func TestP15EulerCharacteristicCases(t *testing.T) {
	cases := []struct {
		m    impl.Mesh
		want int
	}{
		{cubeMesh(), 2}, {quadMesh(), 1}, {impl.Mesh{}, 0}, {mesh(1), 0}, {mesh(80), 0}, {mesh(80, []int{3, 9, 27, 79}), 1}, {together(mesh(5), cubeMesh()), 2}, {withVertex(cubeMesh(), impl.Vec{}), 2},
		{together(cubeMesh(), cubeMesh()), 4}, {together(quadMesh(), quadMesh()), 2}, {together(cubeMesh(), quadMesh()), 3}, {together(ringMesh(3), quadMesh()), 1}, {bothSides(), 2},
		{ringMesh(3), 0}, {ringMesh(4), 0}, {ringMesh(40), 0}, {torusMesh(3, 3), 0}, {torusMesh(8, 8), 0}, {stripMesh(39), 1}, {gridMesh(7, 9), 1}, {wheelMesh(39), 1}, {mesh(7, []int{0, 1, 2, 3}, []int{3, 4, 5, 6}), 1}, {mesh(6, []int{0, 1, 2, 3}, []int{2, 4, 0, 5}), 0},
		{withFace(cubeMesh(), 0, 2, 3, 1), 0}, {mesh(81, []int{0, 1, 2, 3}), 0}, {mesh(4, []int{0, 1, 2}), 0}, {withVertex(quadMesh(), vec(1000001, 0, 0)), 0}, {mesh(4, []int{0, 1, 2, 3}, []int{0, 1, 2, 3}), 0}, {torusMesh(8, 9), 0}, {mesh(4, nil), 0},
	}
	for _, c := range cases {
		if got := impl.EulerCharacteristic(c.m); got != c.want {
			t.Errorf("EulerCharacteristic(%v) = %d, not %d", c.m, got, c.want)
		}
	}
}

func TestP15FacePatchesCases(t *testing.T) {
	a, b, c, d, e, f := vec(1, -2, 3), vec(1000000, 0, -1000000), vec(-7, 8, 9), vec(4, 4, 4), vec(0, 0, 1), vec(-5, 0, 5)
	l := []impl.Vec{a, b, c, d, e, f}
	cases := []struct {
		m    impl.Mesh
		want []impl.Patch
	}{
		{impl.Mesh{}, nil}, {impl.Mesh{Vertices: l}, nil}, {impl.Mesh{Vertices: l, Faces: [][]int{{0, 1, 2, 3}}}, []impl.Patch{patch(a, b, d, c)}}, {impl.Mesh{Vertices: l, Faces: [][]int{{1, 2, 3, 0}}}, []impl.Patch{patch(b, c, a, d)}},
		{impl.Mesh{Vertices: l, Faces: [][]int{{3, 2, 1, 0}}}, []impl.Patch{patch(d, c, a, b)}}, {impl.Mesh{Vertices: l, Faces: [][]int{{5, 0, 4, 1}, {2, 3, 0, 5}}}, []impl.Patch{patch(f, a, b, e), patch(c, d, f, a)}},
		{impl.Mesh{Vertices: l, Faces: [][]int{{0, 1, 2, 3}, {0, 1, 4, 5}}}, nil}, {impl.Mesh{Vertices: l, Faces: [][]int{{0, 1, 2, 3}, {1, 0, 4, 6}}}, nil}, {impl.Mesh{Vertices: l, Faces: [][]int{{0, 1, 2, 3}, {}}}, nil},
	}
	for _, c := range cases {
		if got := impl.FacePatches(c.m); !slices.Equal(got, c.want) {
			t.Errorf("FacePatches(%v) = %v, not %v", c.m, got, c.want)
		}
	}
}

func TestP15InvalidMeshesHaveNothing(t *testing.T) {
	for _, m := range invalidMeshes() {
		if impl.IsValidMesh(m) || len(impl.Edges(m)) > 0 || len(impl.BoundaryEdges(m)) > 0 || impl.IsClosed(m) || impl.EulerCharacteristic(m) != 0 || len(impl.FacePatches(m)) > 0 {
			t.Fatalf("%v is not valid, but has a result that is not the zero value", m)
		}
		for _, v := range vertexNumbers(m) {
			if len(impl.Neighbors(m, v)) > 0 || len(impl.VertexFaces(m, v)) > 0 || len(impl.EdgeFaces(m, v, 0)) > 0 || len(impl.EdgeFaces(m, 1, v)) > 0 {
				t.Fatalf("%v is not valid, but vertex %d has neighbors or faces", m, v)
			}
		}
	}
}

func TestP15NilAndEmptySlicesOfMeshesAreEqual(t *testing.T) {
	a := []int{0, 1, 2, 3}
	none, noVertices, noFaces := impl.Mesh{}, []impl.Vec{}, [][]int{}
	l := quadMesh().Vertices
	cases := [][]impl.Mesh{
		{none, {Vertices: noVertices}, {Faces: noFaces}, {Vertices: noVertices, Faces: noFaces}, {Vertices: make([]impl.Vec, 0, 9), Faces: make([][]int, 0, 9)}},
		{{Vertices: l}, {Vertices: l, Faces: noFaces}}, {{Faces: [][]int{a}}, {Vertices: noVertices, Faces: [][]int{a}}},
		{{Vertices: l, Faces: [][]int{nil}}, {Vertices: l, Faces: [][]int{{}}}}, {{Vertices: l, Faces: [][]int{a, nil}}, {Vertices: l, Faces: [][]int{a, {}}}},
	}
	for _, meshes := range cases {
		for _, m := range meshes[1:] {
			if got, want := meshText(m), meshText(meshes[0]); got != want {
				t.Errorf("%#v has the results %s, but %#v has %s", m, got, meshes[0], want)
			}
		}
	}
}

func TestP15MeshFunctionsRepeatTheirResults(t *testing.T) {
	for _, m := range append(validMeshes(), invalidMeshes()[:20]...) {
		want := meshText(m)
		for range 5 {
			if got := meshText(m); got != want {
				t.Fatalf("%v has the results %s after %s", m, got, want)
			}
		}
	}
	cube := meshText(cubeMesh())
	for range 200 {
		if got := meshText(cubeMesh()); got != cube {
			t.Fatalf("the cube has the results %s after %s", got, cube)
		}
	}
}

// roomyMesh is m with spare capacity behind each slice, and the memory of its slices up to their capacity.
func roomyMesh(m impl.Mesh) (impl.Mesh, []impl.Vec, [][]int, []int) {
	vertices := append(slices.Clone(m.Vertices), vec(1, 2, 3), vec(4, 5, 6), vec(7, 8, 9))
	var numbers []int
	for _, face := range m.Faces {
		numbers = append(append(numbers, face...), -11, -12, -13)
	}
	var faces [][]int
	at := 0
	for _, face := range m.Faces {
		faces = append(faces, numbers[at:at+len(face)])
		at += len(face) + 3
	}
	faces = append(faces, []int{-21}, []int{-22, -23})
	return impl.Mesh{Vertices: vertices[:len(m.Vertices)], Faces: faces[:len(m.Faces)]}, vertices, faces, numbers
}

func TestP15MeshFunctionsChangeNothing(t *testing.T) {
	for _, whole := range append(validMeshes(), invalidMeshes()...) {
		m, vertices, faces, numbers := roomyMesh(whole)
		before := fmt.Sprint(vertices, faces, numbers)
		if got, want := meshText(m), meshText(whole); got != want {
			t.Fatalf("%v has the results %s, not %s, with spare capacity behind its slices", whole, got, want)
		}
		if after := fmt.Sprint(vertices, faces, numbers); after != before {
			t.Fatalf("%v was changed, or what lies behind its slices: %s became %s", whole, before, after)
		}
	}
}

// overwrite fills l and its spare capacity.
func overwrite(l []int) {
	l = l[:cap(l)]
	for k := range l {
		l[k] = -99
	}
}

func TestP15MeshResultsAreNew(t *testing.T) {
	results := map[string]func(m impl.Mesh) []int{
		"EdgeFaces":   func(m impl.Mesh) []int { return impl.EdgeFaces(m, m.Faces[0][1], m.Faces[0][0]) },
		"Neighbors":   func(m impl.Mesh) []int { return impl.Neighbors(m, m.Faces[0][0]) },
		"VertexFaces": func(m impl.Mesh) []int { return impl.VertexFaces(m, m.Faces[0][0]) },
	}
	for _, m := range append(validMeshes(), smallMeshes()[:500]...) {
		if len(m.Faces) == 0 {
			continue
		}
		before := fmt.Sprint(m)
		for name, result := range results {
			kept := result(m)
			want := slices.Clone(kept)
			overwrite(result(m))
			if again := result(m); !slices.Equal(kept, want) || !slices.Equal(again, want) || fmt.Sprint(m) != before {
				t.Fatalf("a result of %s was overwritten, and an earlier one is %v, a later one %v, not %v, for %v", name, kept, again, want, m)
			}
		}
		kept, changed := impl.FacePatches(m), impl.FacePatches(m)
		want := slices.Clone(kept)
		clear(changed[:cap(changed)])
		if again := impl.FacePatches(m); !slices.Equal(kept, want) || !slices.Equal(again, want) || fmt.Sprint(m) != before {
			t.Fatalf("a result of FacePatches was overwritten, and an earlier one is %v, a later one %v, not %v", kept, again, want)
		}
	}
}

func TestP15PairsOfEdgesAreNew(t *testing.T) {
	for name, result := range map[string]func(m impl.Mesh) [][]int{"Edges": impl.Edges, "BoundaryEdges": impl.BoundaryEdges} {
		for _, m := range append(validMeshes(), smallMeshes()[:500]...) {
			before, kept, changed := fmt.Sprint(m), result(m), result(m)
			want := fmt.Sprint(kept)
			for k, pair := range changed {
				overwrite(pair)
				if !equalPairs(changed[k+1:], kept[k+1:]) {
					t.Fatalf("pairs of %s share memory: with pair %d changed, they are %v, not %s", name, k, changed, want)
				}
			}
			clear(changed[:cap(changed)])
			if again := result(m); fmt.Sprint(kept) != want || fmt.Sprint(again) != want || fmt.Sprint(m) != before {
				t.Fatalf("a result of %s was overwritten, and an earlier one is %v, a later one %v, not %s, for %v", name, kept, again, want, m)
			}
		}
	}
}
