package tests

import (
	"fmt"
	"math"
	"slices"
	"strconv"
	"strings"
	"testing"

	"loop.example/g00809/impl"
)

func camera(w, h, zoom, near int, deep bool, lens, focus int) impl.Camera {
	return impl.Camera{W: w, H: h, Zoom: zoom, Near: near, Deep: deep, Lens: lens, Focus: focus}
}

// documentCamera is the one of the document's example.
func documentCamera() impl.Camera {
	return camera(2, 2, 256, 1, false, 0, 0)
}

// withDeep returns both cameras with the numbers of c: the orthographic and the perspective one.
func withDeep(c impl.Camera) []impl.Camera {
	flat, deep := c, c
	flat.Deep, deep.Deep = false, true
	return []impl.Camera{flat, deep}
}

// cameraRanges lists the least and the greatest value of W, H, Zoom, Near, Lens and Focus.
func cameraRanges() [6][2]int {
	return [6][2]int{{1, 12}, {1, 12}, {1, 65536}, {1, 1000000}, {0, 64}, {0, 1000000}}
}

// cameraNumbers returns the six numbers of c in the order of cameraRanges.
func cameraNumbers(c impl.Camera) [6]int {
	return [6]int{c.W, c.H, c.Zoom, c.Near, c.Lens, c.Focus}
}

func cameraOf(l [6]int, deep bool) impl.Camera {
	return camera(l[0], l[1], l[2], l[3], deep, l[4], l[5])
}

// withNumber replaces the number in place k of cameraNumbers by n.
func withNumber(c impl.Camera, k, n int) impl.Camera {
	l := cameraNumbers(c)
	l[k] = n
	return cameraOf(l, c.Deep)
}

func leastCamera() impl.Camera {
	return camera(1, 1, 1, 1, false, 0, 0)
}

func greatestCamera() impl.Camera {
	return camera(12, 12, 65536, 1000000, true, 64, 1000000)
}

// sharpCameras lists valid cameras with lenses and focal planes at which points can be projected.
func sharpCameras() []impl.Camera {
	return []impl.Camera{
		camera(3, 5, 256, 1, false, 64, 100), camera(3, 5, 300, 7, true, 64, 100), camera(12, 1, 1, 40, true, 1, 40), camera(1, 12, 65536, 1000, true, 63, 1000),
		camera(7, 8, 65536, 999999, false, 5, 1000000), camera(7, 8, 1, 1000000, true, 64, 1000000), camera(11, 2, 12345, 1, true, 17, 1), camera(4, 9, 1000, 2, false, 33, 54321),
	}
}

// anyCameras lists valid cameras, and such in which one number is at the end of its range or beyond it.
func anyCameras() []impl.Camera {
	l := []impl.Camera{{}, {Deep: true}, documentCamera(), leastCamera(), greatestCamera()}
	bases := []impl.Camera{documentCamera(), leastCamera(), greatestCamera(), camera(3, 5, 300, 7, true, 63, 4097), camera(11, 7, 65535, 1, true, 31, 500)}
	for _, base := range append(bases, sharpCameras()...) {
		for k, ends := range cameraRanges() {
			lo, hi := ends[0], ends[1]
			for _, n := range []int{lo - 1, lo, lo + 1, hi - 1, hi, hi + 1, -lo, -hi, -1, 0, (lo + hi) / 2, 1<<32 + lo, 1<<32 + hi, math.MinInt, math.MinInt + 1, math.MaxInt - 1, math.MaxInt} {
				l = append(l, withDeep(withNumber(base, k, n))...)
			}
		}
	}
	return l
}

// wantValidCamera compares each number with its range.
func wantValidCamera(c impl.Camera) bool {
	for k, n := range cameraNumbers(c) {
		ends := cameraRanges()[k]
		if n < ends[0] || n > ends[1] {
			return false
		}
	}
	return true
}

func validCameras() []impl.Camera {
	return slices.DeleteFunc(anyCameras(), func(c impl.Camera) bool { return !wantValidCamera(c) })
}

func invalidCameras() []impl.Camera {
	return slices.DeleteFunc(anyCameras(), wantValidCamera)
}

// wantScreen follows the document's three steps for one coordinate, in numbers without a limit. It wants valid arguments.
func wantScreen(c impl.Camera, n, z, lens, pixels int) int {
	d := 256
	if c.Deep {
		d = z
	}
	n += quotient(product(lens*c.Lens, z-c.Focus), 4096)
	n = quotient(product(n, c.Zoom), d)
	return within(n+pixels*16/2, -100000, 100000)
}

func wantProject(c impl.Camera, v impl.Vec, lensX, lensY int) (impl.Vec, bool) {
	isLens := lensX >= -16 && lensX <= 16 && lensY >= -16 && lensY <= 16
	if !wantValidCamera(c) || v != clampedVec(v) || !isLens || v.Z < c.Near {
		return impl.Vec{}, false
	}
	return vec(wantScreen(c, v.X, v.Z, lensX, c.W), wantScreen(c, v.Y, v.Z, lensY, c.H), v.Z), true
}

func checkProject(t *testing.T, c impl.Camera, v impl.Vec, lensX, lensY int) {
	t.Helper()
	got, ok := impl.Project(c, v, lensX, lensY)
	if want, wantOk := wantProject(c, v, lensX, lensY); got != want || ok != wantOk {
		t.Fatalf("Project(%+v, %v, %d, %d) = %v, %v, not %v, %v", c, v, lensX, lensY, got, ok, want, wantOk)
	}
}

// wantNoProjection wants the zero value and false.
func wantNoProjection(t *testing.T, c impl.Camera, v impl.Vec, lensX, lensY int) {
	t.Helper()
	if got, ok := impl.Project(c, v, lensX, lensY); got != (impl.Vec{}) || ok {
		t.Fatalf("Project(%+v, %v, %d, %d) = %v, %v", c, v, lensX, lensY, got, ok)
	}
}

// lensPositions lists all pairs from which a point can be seen.
func lensPositions() [][2]int {
	var l [][2]int
	for lensX := -16; lensX <= 16; lensX++ {
		for lensY := -16; lensY <= 16; lensY++ {
			l = append(l, [2]int{lensX, lensY})
		}
	}
	return l
}

// sides lists coordinates of both signs at which a projection is rounded, clamped, or neither.
func sides() []int {
	return []int{0, 1, -1, 3, -4, 100, -101, 257, -255, 9999, -12345, 99984, -100016, 999999, -999999, 1000000, -1000000}
}

// depths lists depths around Near and Focus and at the ends of the range.
func depths(c impl.Camera) []int {
	return []int{c.Near - 1, c.Near, c.Near + 1, c.Focus - 4097, c.Focus - 3, c.Focus - 1, c.Focus, c.Focus + 1, c.Focus + 4095, 0, -1, 255, 256, 777, 65537, 999999, 1000000, 1000001, -1000000}
}

func TestP4PointsOnTheFocalPlaneAreSharp(t *testing.T) {
	for _, c := range sharpCameras() {
		for _, c := range withDeep(c) {
			for i, x := range sides() {
				v := vec(x, sides()[(5*i+3)%len(sides())], c.Focus)
				want, ok := impl.Project(c, v, 0, 0)
				if !ok {
					t.Fatalf("%v on the focal plane of %+v is not projected", v, c)
				}
				for _, lens := range lensPositions() {
					if got, ok := impl.Project(c, v, lens[0], lens[1]); got != want || !ok {
						t.Fatalf("%v on the focal plane of %+v is projected to %v, %v from the lens position %v, and to %v from its center", v, c, got, ok, lens, want)
					}
				}
			}
		}
	}
}

// A point at the distance Focus and in front of Near has the same answer, too: none.
func TestP4PointsOnAHiddenFocalPlaneAreNotSeen(t *testing.T) {
	for _, c := range sharpCameras() {
		for _, c := range withDeep(withNumber(c, 5, c.Near-1)) {
			for _, lens := range lensPositions() {
				wantNoProjection(t, c, vec(5, -6, c.Focus), lens[0], lens[1])
			}
		}
	}
}

func TestP4SharpPointsDoNotDependOnTheSizeOfTheLens(t *testing.T) {
	for _, c := range sharpCameras() {
		v := vec(123, -45, c.Focus)
		want, _ := impl.Project(withNumber(c, 4, 0), v, 0, 0)
		for lens := 0; lens <= 64; lens++ {
			for _, position := range [][2]int{{0, 0}, {-16, 16}, {16, -16}, {7, -3}} {
				if got, ok := impl.Project(withNumber(c, 4, lens), v, position[0], position[1]); got != want || !ok {
					t.Errorf("%v on the focal plane of %+v is projected to %v, %v with the lens radius %d, and to %v without one", v, c, got, ok, lens, want)
				}
			}
		}
	}
}

// From the center of the lens, or with the lens radius 0, every point is sharp.
func TestP4PointsAreSharpWithoutALens(t *testing.T) {
	for _, c := range sharpCameras() {
		for _, z := range depths(c) {
			v := vec(-321, 54, z)
			want, wantOk := impl.Project(c, v, 0, 0)
			for _, focus := range []int{0, 1, c.Near, 1000000} {
				center, centerOk := impl.Project(withNumber(c, 5, focus), v, 0, 0)
				if center != want || centerOk != wantOk {
					t.Errorf("%v, seen by %+v, is projected to %v from the lens center, and to %v with the focus %d", v, c, want, center, focus)
				}
			}
			for _, lens := range lensPositions() {
				got, ok := impl.Project(withNumber(c, 4, 0), v, lens[0], lens[1])
				if got != want || ok != wantOk {
					t.Errorf("%v, seen by %+v with the lens radius 0, is projected to %v from the lens position %v, not to %v", v, c, got, lens, want)
				}
			}
		}
	}
}

// The blur of a point grows with its distance from the focal plane, to opposite sides in front of it and behind it.
func TestP4BlurGrowsWithTheDistanceFromTheFocalPlane(t *testing.T) {
	c := camera(4, 4, 256, 1, false, 64, 5000)
	for _, lens := range []int{1, 5, 16} {
		previous := math.MinInt
		for z := 1; z <= 10000; z++ {
			v, _ := impl.Project(c, vec(0, 0, z), lens, -lens)
			// The two shifts are opposite, but both are rounded down.
			right, down := v.X-32, v.Y-32
			if right < previous || right+down != 0 && right+down != -1 {
				t.Fatalf("at the depth %d, the lens position %d shifts a point by %d and %d, after %d", z, lens, right, down, previous)
			}
			if z <= 4936 && right >= 0 || z == 5000 && right != 0 || z >= 5064 && right <= 0 {
				t.Fatalf("at the depth %d, the lens position %d shifts a point by %d", z, lens, right)
			}
			previous = right
		}
		if previous != lens*5000/64 {
			t.Errorf("at the greatest depth, the lens position %d shifts a point by %d", lens, previous)
		}
	}
}

func TestP15CameraConstants(t *testing.T) {
	if impl.MaxPixels != 12 || impl.SubPixels != 16 || impl.MaxScreen != 100000 {
		t.Errorf("MaxPixels, SubPixels and MaxScreen are %d, %d and %d", impl.MaxPixels, impl.SubPixels, impl.MaxScreen)
	}
}

func TestP15IsValidCamera(t *testing.T) {
	for _, c := range anyCameras() {
		if got := impl.IsValidCamera(c); got != wantValidCamera(c) {
			t.Errorf("IsValidCamera(%+v) = %v", c, got)
		}
	}
	// Pairs of numbers, both at the ends of their ranges or beyond them.
	for j, first := range cameraRanges() {
		for k, second := range cameraRanges() {
			for _, m := range []int{first[0] - 1, first[0], first[1], first[1] + 1} {
				for _, n := range []int{second[0] - 1, second[0], second[1], second[1] + 1} {
					for _, c := range withDeep(withNumber(withNumber(camera(6, 7, 300, 20, false, 9, 50), j, m), k, n)) {
						if got := impl.IsValidCamera(c); got != wantValidCamera(c) {
							t.Errorf("IsValidCamera(%+v) = %v", c, got)
						}
					}
				}
			}
		}
	}
}

func TestP15IsValidCameraCases(t *testing.T) {
	low, high := math.MinInt, math.MaxInt
	cases := []struct {
		place int
		good  []int
		bad   []int
	}{
		{0, []int{1, 2, 11, 12}, []int{0, 13, -1, -12, 1<<32 + 1, low, low + 1, high - 1, high}}, {1, []int{1, 2, 11, 12}, []int{0, 13, -1, -12, 1<<32 + 1, low, low + 1, high - 1, high}},
		{2, []int{1, 2, 256, 65535, 65536}, []int{0, 65537, -1, -65536, 1<<32 + 1, low, low + 1, high - 1, high}}, {3, []int{1, 2, 999999, 1000000}, []int{0, 1000001, -1, -1000000, 1<<32 + 1, low, low + 1, high - 1, high}},
		{4, []int{0, 1, 63, 64}, []int{-1, 65, -64, 1 << 32, low, low + 1, high - 1, high}}, {5, []int{0, 1, 999999, 1000000}, []int{-1, 1000001, -1000000, 1 << 32, low, low + 1, high - 1, high}},
	}
	for _, base := range []impl.Camera{documentCamera(), leastCamera(), greatestCamera()} {
		for _, c := range cases {
			for _, n := range c.good {
				for _, camera := range withDeep(withNumber(base, c.place, n)) {
					if !impl.IsValidCamera(camera) {
						t.Errorf("IsValidCamera(%+v) is false", camera)
					}
				}
			}
			for _, n := range c.bad {
				for _, camera := range withDeep(withNumber(base, c.place, n)) {
					if impl.IsValidCamera(camera) {
						t.Errorf("IsValidCamera(%+v) is true", camera)
					}
				}
			}
		}
	}
	for _, c := range []impl.Camera{{}, {Deep: true}, camera(low, low, low, low, true, low, low), camera(high, high, high, high, false, high, high)} {
		if impl.IsValidCamera(c) {
			t.Errorf("IsValidCamera(%+v) is true", c)
		}
	}
}

func TestP15Project(t *testing.T) {
	positions := [][2]int{{0, 0}, {16, -16}, {-16, 16}, {1, -1}, {-7, 5}, {15, 16}, {-17, 0}, {0, 17}}
	for _, c := range validCameras() {
		for i, z := range depths(c) {
			for k, x := range sides() {
				y := sides()[(7*k+i)%len(sides())]
				lens := positions[(i+k)%len(positions)]
				checkProject(t, c, vec(x, y, z), lens[0], lens[1])
				checkProject(t, c, vec(x, y, z), lens[1], lens[0])
			}
		}
	}
}

func TestP15ProjectFromEveryLensPosition(t *testing.T) {
	for _, c := range append(sharpCameras(), camera(5, 6, 700, 1, true, 64, 4000), camera(5, 6, 65536, 1, false, 7, 4000)) {
		for _, z := range depths(c) {
			for _, lens := range lensPositions() {
				checkProject(t, c, vec(19, -20, z), lens[0], lens[1])
			}
		}
	}
}

// Both axes are treated alike: exchanging them everywhere exchanges them in the result.
func TestP15ProjectTreatsBothAxesAlike(t *testing.T) {
	for _, c := range validCameras() {
		other := c
		other.W, other.H = c.H, c.W
		for _, z := range depths(c) {
			got, ok := impl.Project(c, vec(17, -333, z), 11, -16)
			exchanged, same := impl.Project(other, vec(-333, 17, z), -16, 11)
			if ok != same || got != vec(exchanged.Y, exchanged.X, exchanged.Z) {
				t.Errorf("Project(%+v) at the depth %d is %v, but %v with the axes exchanged", c, z, got, exchanged)
			}
		}
	}
}

type projectCase struct {
	c            impl.Camera
	v            impl.Vec
	lensX, lensY int
	want         impl.Vec
}

func checkCases(t *testing.T, cases []projectCase) {
	t.Helper()
	for _, c := range cases {
		if got, ok := impl.Project(c.c, c.v, c.lensX, c.lensY); got != c.want || !ok {
			t.Errorf("Project(%+v, %v, %d, %d) = %v, %v, not %v", c.c, c.v, c.lensX, c.lensY, got, ok, c.want)
		}
	}
}

func TestP15ProjectCases(t *testing.T) {
	checkCases(t, []projectCase{
		{documentCamera(), vec(3, -4, 9), 0, 0, vec(19, 12, 9)}, {documentCamera(), vec(3, -4, 9), 16, -16, vec(19, 12, 9)}, {documentCamera(), vec(3, -4, 1000000), 0, 0, vec(19, 12, 1000000)}, {documentCamera(), vec(0, 0, 1), 0, 0, vec(16, 16, 1)},
		// Orthographic: the quotients of 300 and -400 and of 299 and -299 by 256 are rounded down, at every depth.
		{camera(2, 2, 100, 1, false, 0, 0), vec(3, -4, 9), 0, 0, vec(17, 14, 9)}, {camera(2, 2, 100, 1, false, 0, 0), vec(3, -4, 100), 0, 0, vec(17, 14, 100)}, {camera(2, 2, 299, 1, false, 0, 0), vec(1, -1, 9), 0, 0, vec(17, 14, 9)}, {camera(2, 2, 1, 1, false, 0, 0), vec(-1, 255, 9), 0, 0, vec(15, 16, 9)}, {camera(2, 2, 1, 1, false, 0, 0), vec(-256, -257, 9), 0, 0, vec(15, 14, 9)}, {camera(2, 2, 512, 1, false, 0, 0), vec(-3, 3, 9), 0, 0, vec(10, 22, 9)},
		// Perspective: the quotients by the depth are rounded down.
		{camera(2, 2, 256, 1, true, 0, 0), vec(3, -4, 9), 0, 0, vec(101, -98, 9)}, {camera(2, 2, 256, 1, true, 0, 0), vec(1, -1, 100), 0, 0, vec(18, 13, 100)}, {camera(2, 2, 256, 1, true, 0, 0), vec(1, -1, 256), 0, 0, vec(17, 15, 256)}, {camera(2, 2, 256, 1, true, 0, 0), vec(1, -1, 1000000), 0, 0, vec(16, 15, 1000000)}, {camera(2, 2, 256, 1, true, 0, 0), vec(1000000, -1000000, 1000000), 0, 0, vec(272, -240, 1000000)}, {camera(2, 2, 1, 1, true, 0, 0), vec(7, -7, 2), 0, 0, vec(19, 12, 2)},
		// Odd numbers of columns and rows: the center is at half of the width and height in screen positions.
		{camera(1, 3, 256, 1, false, 0, 0), vec(0, 0, 5), 0, 0, vec(8, 24, 5)}, {camera(3, 1, 256, 1, false, 0, 0), vec(2, -2, 5), 0, 0, vec(26, 6, 5)}, {camera(5, 11, 256, 1, true, 0, 0), vec(1, -1, 256), 0, 0, vec(41, 87, 256)}, {camera(12, 7, 256, 1, false, 0, 0), vec(-96, 56, 5), 0, 0, vec(0, 112, 5)},
		// The nearest point of all, and the farthest.
		{camera(2, 2, 256, 40, true, 0, 0), vec(10, -10, 40), 0, 0, vec(80, -48, 40)}, {camera(2, 2, 256, 1000000, true, 0, 0), vec(10, -10, 1000000), 0, 0, vec(16, 15, 1000000)}, {camera(2, 2, 256, 1000000, false, 0, 0), vec(10, -10, 1000000), 0, 0, vec(26, 6, 1000000)},
	})
}

func TestP15ProjectThroughTheLens(t *testing.T) {
	// With the lens radius 64, the lens positions 16 and -16 shift a point by a quarter of its distance from the focal plane.
	c, deep := camera(2, 4, 256, 1, false, 64, 100), camera(2, 4, 256, 1, true, 64, 100)
	checkCases(t, []projectCase{
		{c, vec(5, -5, 100), 16, -16, vec(21, 27, 100)}, {c, vec(5, -5, 104), 16, -16, vec(22, 26, 104)}, {c, vec(5, -5, 96), 16, -16, vec(20, 28, 96)}, {c, vec(5, -5, 104), -16, 16, vec(20, 28, 104)}, {c, vec(5, -5, 96), -16, 16, vec(22, 26, 96)}, {c, vec(5, -5, 104), 16, 0, vec(22, 27, 104)}, {c, vec(5, -5, 104), 0, 16, vec(21, 28, 104)},
		// A shift by less than 1 is rounded down to 0 or to -1.
		{c, vec(5, -5, 101), 16, -16, vec(21, 26, 101)}, {c, vec(5, -5, 103), 16, -16, vec(21, 26, 103)}, {c, vec(5, -5, 99), 16, -16, vec(20, 27, 99)}, {c, vec(5, -5, 97), 16, -16, vec(20, 27, 97)}, {c, vec(5, -5, 101), 1, -1, vec(21, 26, 101)}, {c, vec(5, -5, 105), -16, -16, vec(19, 25, 105)},
		// The shift is rounded before the point is projected, and then magnified.
		{camera(2, 4, 65536, 1, false, 64, 100), vec(0, 0, 103), 16, -16, vec(16, -224, 103)}, {deep, vec(5, -5, 100), 16, -16, vec(28, 19, 100)}, {deep, vec(5, -5, 200), 16, -16, vec(54, -7, 200)}, {deep, vec(5, -5, 50), 16, -16, vec(-25, 67, 50)}, {deep, vec(0, 0, 1), 16, -16, vec(-6384, 6176, 1)}, {camera(2, 4, 100, 1, false, 3, 0), vec(-7, 7, 1000), -5, 5, vec(11, 35, 1000)},
		// The shift of a point may take it out of the range of coordinates.
		{camera(2, 4, 1, 1, false, 64, 0), vec(1000000, -1000000, 1000000), 16, -16, vec(4898, -4851, 1000000)}, {camera(2, 4, 256, 1, true, 64, 0), vec(1000000, -1000000, 1000000), 16, -16, vec(336, -288, 1000000)}, {camera(2, 4, 1, 1, false, 64, 1000000), vec(1000000, -1000000, 1), -16, 16, vec(4898, -4851, 1)}, {camera(2, 4, 1, 1, false, 64, 1000000), vec(1000000, -1000000, 1), 16, -16, vec(2945, -2898, 1)},
	})
}

func TestP15ProjectClampsItsResult(t *testing.T) {
	c, far := camera(2, 4, 256, 1, false, 0, 0), 1000000
	checkCases(t, []projectCase{
		{c, vec(99983, 99967, 9), 0, 0, vec(99999, 99999, 9)}, {c, vec(99984, 99968, 9), 0, 0, vec(100000, 100000, 9)}, {c, vec(99985, 99969, 9), 0, 0, vec(100000, 100000, 9)},
		{c, vec(-100015, -100031, 9), 0, 0, vec(-99999, -99999, 9)}, {c, vec(-100016, -100032, 9), 0, 0, vec(-100000, -100000, 9)}, {c, vec(-100017, -100033, 9), 0, 0, vec(-100000, -100000, 9)},
		{c, vec(far, 0, 9), 0, 0, vec(100000, 32, 9)}, {c, vec(0, far, 9), 0, 0, vec(16, 100000, 9)}, {c, vec(-far, 0, 9), 0, 0, vec(-100000, 32, 9)}, {c, vec(0, -far, 9), 0, 0, vec(16, -100000, 9)}, {c, vec(far, -far, far), 0, 0, vec(100000, -100000, far)}, {c, vec(-far, far, 100001), 0, 0, vec(-100000, 100000, 100001)}, {c, vec(0, 0, far), 0, 0, vec(16, 32, far)},
		{camera(2, 4, 65536, 1, true, 0, 0), vec(far, -far, 1), 0, 0, vec(100000, -100000, 1)}, {camera(2, 4, 65536, 1, true, 64, far), vec(-far, far, 1), 16, -16, vec(-100000, 100000, 1)}, {camera(2, 4, 65536, 1, false, 64, 0), vec(far, -far, far), 16, -16, vec(100000, -100000, far)}, {camera(2, 4, 65536, 1, true, 0, 0), vec(2, -2, 1), 0, 0, vec(100000, -100000, 1)}, {camera(2, 4, 65536, 1, true, 0, 0), vec(1, -1, 1), 0, 0, vec(65552, -65504, 1)},
	})
}

func TestP15ProjectRejectsDepthsInFrontOfNear(t *testing.T) {
	for _, near := range []int{1, 2, 7, 500, 999999, 1000000} {
		for _, focus := range []int{0, 1, near, 1000000} {
			for _, c := range withDeep(camera(3, 4, 256, near, false, 64, focus)) {
				for _, z := range []int{near - 1, 0, -1, -near, -1000000} {
					wantNoProjection(t, c, vec(1, 2, z), 0, 0)
					wantNoProjection(t, c, vec(1, 2, z), -16, 16)
				}
				for _, z := range []int{near, min(near+1, 1000000), 1000000} {
					checkProject(t, c, vec(1, 2, z), 3, -5)
					if got, ok := impl.Project(c, vec(1, 2, z), 0, 0); !ok || got.Z != z {
						t.Errorf("a point at the depth %d is projected to %v, %v by %+v", z, got, ok, c)
					}
				}
			}
		}
	}
}

func TestP15ProjectRejectsLensPositions(t *testing.T) {
	outside := []int{-17, 17, -18, 18, 33, -33, 64, 1 << 32, 1<<32 + 1, math.MinInt, math.MinInt + 1, math.MaxInt - 1, math.MaxInt}
	for _, base := range append(sharpCameras(), documentCamera()) {
		for _, c := range withDeep(base) {
			v := vec(1, -2, max(c.Near, c.Focus))
			for _, n := range outside {
				for _, other := range append([]int{-16, 0, 16}, outside...) {
					wantNoProjection(t, c, v, n, other)
					wantNoProjection(t, c, v, other, n)
				}
			}
			for _, n := range []int{-16, 16} {
				for _, other := range []int{-16, 0, 16} {
					_, ok := impl.Project(c, v, n, other)
					if _, exchanged := impl.Project(c, v, other, n); !ok || !exchanged {
						t.Errorf("%v is not projected by %+v from the lens positions %d and %d", v, c, n, other)
					}
				}
			}
		}
	}
}

func TestP15ProjectRejectsVectors(t *testing.T) {
	for _, base := range append(sharpCameras(), documentCamera()) {
		for _, c := range withDeep(base) {
			good := vec(1000000, -1000000, 1000000)
			if _, ok := impl.Project(c, good, 0, 0); !ok {
				t.Errorf("%v is not projected by %+v", good, c)
			}
			for k := range 3 {
				for _, n := range []int{1000001, -1000001, 1 << 32, math.MinInt, math.MinInt + 1, math.MaxInt - 1, math.MaxInt} {
					wantNoProjection(t, c, withComponent(good, k, n), 0, 0)
					wantNoProjection(t, c, withComponent(vec(0, 0, c.Near), k, n), 16, -16)
				}
			}
		}
	}
}

func TestP15ProjectRejectsCameras(t *testing.T) {
	for _, c := range invalidCameras() {
		for _, z := range []int{1, 9, 1000000, 0, -5, within(c.Near, -1000000, 1000000)} {
			wantNoProjection(t, c, vec(3, -4, z), 0, 0)
			wantNoProjection(t, c, vec(0, 0, z), 16, -16)
		}
	}
	wantNoProjection(t, impl.Camera{}, impl.Vec{}, 0, 0)
	wantNoProjection(t, impl.Camera{Deep: true}, impl.Vec{}, 0, 0)
}

// positions lists screen positions around the border of an image of c, and the extreme values of int.
func positions(pixels int) []int {
	end := 16 * pixels
	return []int{0, 1, 15, 16, 17, end - 17, end - 16, end - 1, end, end + 1, -1, -2, -15, -16, -17, -end, 191, 192, 100000, 1 << 32, 1<<32 + 1, math.MinInt, math.MinInt + 1, math.MaxInt - 1, math.MaxInt}
}

func checkPixel(t *testing.T, c impl.Camera, x, y int) {
	t.Helper()
	want := [2]int{}
	inside := wantValidCamera(c) && x >= 0 && y >= 0 && x < 16*c.W && y < 16*c.H
	if inside {
		want = [2]int{x / 16, y / 16}
	}
	if i, j, ok := impl.PixelAt(c, x, y); i != want[0] || j != want[1] || ok != inside {
		t.Fatalf("PixelAt(%+v, %d, %d) = %d, %d, %v", c, x, y, i, j, ok)
	}
}

func TestP15PixelAt(t *testing.T) {
	for _, c := range anyCameras() {
		for _, x := range positions(within(c.W, 1, 13)) {
			for _, y := range positions(within(c.H, 1, 13)) {
				checkPixel(t, c, x, y)
			}
		}
	}
	for w := 1; w <= 12; w++ {
		for _, c := range withDeep(camera(w, 13-w, 77, 5, false, 1, 2)) {
			for x := -20; x < 215; x++ {
				for y := -20; y < 215; y++ {
					checkPixel(t, c, x, y)
				}
			}
		}
	}
}

func TestP15PixelAtCases(t *testing.T) {
	wide := camera(12, 1, 256, 1, true, 64, 5)
	cases := []struct {
		c          impl.Camera
		x, y, i, j int
		ok         bool
	}{
		{documentCamera(), 17, 3, 1, 0, true}, {documentCamera(), 32, 3, 0, 0, false}, {documentCamera(), 3, 17, 0, 1, true}, {documentCamera(), 3, 32, 0, 0, false},
		{documentCamera(), 0, 0, 0, 0, true}, {documentCamera(), 31, 0, 1, 0, true}, {documentCamera(), 0, 31, 0, 1, true}, {documentCamera(), 31, 31, 1, 1, true}, {documentCamera(), 15, 16, 0, 1, true}, {documentCamera(), 16, 15, 1, 0, true},
		{documentCamera(), -1, 20, 0, 0, false}, {documentCamera(), 20, -1, 0, 0, false}, {documentCamera(), -1, -1, 0, 0, false}, {documentCamera(), 32, 32, 0, 0, false}, {documentCamera(), -16, 20, 0, 0, false}, {documentCamera(), 20, math.MinInt, 0, 0, false}, {documentCamera(), math.MaxInt, 20, 0, 0, false},
		{wide, 191, 15, 11, 0, true}, {wide, 192, 15, 0, 0, false}, {wide, 191, 16, 0, 0, false}, {wide, 15, 15, 0, 0, true}, {wide, 176, 0, 11, 0, true}, {wide, 175, 0, 10, 0, true}, {leastCamera(), 15, 15, 0, 0, true}, {leastCamera(), 16, 0, 0, 0, false}, {leastCamera(), 0, 16, 0, 0, false}, {greatestCamera(), 191, 191, 11, 11, true},
		{impl.Camera{}, 0, 0, 0, 0, false}, {withNumber(documentCamera(), 2, 0), 17, 17, 0, 0, false}, {withNumber(documentCamera(), 0, 13), 17, 17, 0, 0, false}, {withNumber(documentCamera(), 5, -1), 17, 17, 0, 0, false}, {withNumber(documentCamera(), 4, 65), 17, 17, 0, 0, false},
	}
	for _, c := range cases {
		if i, j, ok := impl.PixelAt(c.c, c.x, c.y); i != c.i || j != c.j || ok != c.ok {
			t.Errorf("PixelAt(%+v, %d, %d) = %d, %d, %v", c.c, c.x, c.y, i, j, ok)
		}
	}
}

func TestP15ViewBounds(t *testing.T) {
	for _, c := range anyCameras() {
		want := impl.Box{}
		if wantValidCamera(c) {
			want = box(vec(0, 0, c.Near), vec(16*c.W-1, 16*c.H-1, 1000000))
		}
		if got := impl.ViewBounds(c); got != want || !impl.IsValidBox(got) {
			t.Errorf("ViewBounds(%+v) = %v, not %v", c, got, want)
		}
	}
	cases := []struct {
		c    impl.Camera
		want impl.Box
	}{
		{documentCamera(), box(vec(0, 0, 1), vec(31, 31, 1000000))}, {leastCamera(), box(vec(0, 0, 1), vec(15, 15, 1000000))}, {greatestCamera(), box(vec(0, 0, 1000000), vec(191, 191, 1000000))}, {camera(3, 7, 1, 50, true, 0, 0), box(vec(0, 0, 50), vec(47, 111, 1000000))}, {camera(12, 1, 65536, 999999, false, 64, 0), box(vec(0, 0, 999999), vec(191, 15, 1000000))},
		{impl.Camera{}, impl.Box{}}, {impl.Camera{Deep: true}, impl.Box{}}, {camera(13, 2, 256, 1, false, 0, 0), impl.Box{}}, {camera(2, 0, 256, 1, false, 0, 0), impl.Box{}}, {camera(2, 2, 256, 1, true, 65, 0), impl.Box{}}, {camera(2, 2, 256, 0, true, 0, 0), impl.Box{}},
	}
	for _, c := range cases {
		if got := impl.ViewBounds(c.c); got != c.want {
			t.Errorf("ViewBounds(%+v) = %v, not %v", c.c, got, c.want)
		}
	}
}

// The bounds hold what can be projected into a pixel, and nothing else.
func TestP15ViewBoundsHoldThePixels(t *testing.T) {
	inside, outside := 0, 0
	for _, c := range validCameras() {
		for _, z := range depths(c) {
			for _, x := range sides() {
				v, ok := impl.Project(c, vec(x, -x/3, z), -3, 4)
				if !ok {
					continue
				}
				_, _, isPixel := impl.PixelAt(c, v.X, v.Y)
				if isPixel != impl.BoxContains(impl.ViewBounds(c), v) {
					t.Fatalf("%v in the image of %+v is in a pixel: %v, but not in the bounds %v", v, c, isPixel, impl.ViewBounds(c))
				}
				if isPixel {
					inside++
				} else {
					outside++
				}
			}
		}
	}
	if inside < 1000 || outside < 1000 {
		t.Errorf("only %d positions inside and %d outside were compared", inside, outside)
	}
}

func wantCameraText(c impl.Camera) string {
	if !wantValidCamera(c) {
		return ""
	}
	deep := 0
	if c.Deep {
		deep = 1
	}
	var words []string
	for _, n := range []int{c.W, c.H, c.Zoom, c.Near, deep, c.Lens, c.Focus} {
		words = append(words, strconv.Itoa(n))
	}
	return strings.Join(words, ",")
}

func TestP15FormatCamera(t *testing.T) {
	for _, c := range anyCameras() {
		if got := impl.FormatCamera(c); got != wantCameraText(c) {
			t.Errorf("FormatCamera(%+v) = %q, not %q", c, got, wantCameraText(c))
		}
	}
	cases := []struct {
		c    impl.Camera
		want string
	}{
		{documentCamera(), "2,2,256,1,0,0,0"}, {leastCamera(), "1,1,1,1,0,0,0"}, {greatestCamera(), "12,12,65536,1000000,1,64,1000000"}, {camera(3, 4, 5, 6, true, 7, 8), "3,4,5,6,1,7,8"}, {camera(3, 4, 5, 6, false, 7, 8), "3,4,5,6,0,7,8"},
		{impl.Camera{}, ""}, {impl.Camera{Deep: true}, ""}, {camera(0, 4, 5, 6, true, 7, 8), ""}, {camera(3, 13, 5, 6, true, 7, 8), ""}, {camera(3, 4, 65537, 6, true, 7, 8), ""}, {camera(3, 4, 5, 0, true, 7, 8), ""}, {camera(3, 4, 5, 6, false, -1, 8), ""}, {camera(3, 4, 5, 6, false, 7, 1000001), ""}, {camera(3, 4, 5, 6, false, 7, math.MinInt), ""},
	}
	for _, c := range cases {
		if got := impl.FormatCamera(c.c); got != c.want {
			t.Errorf("FormatCamera(%+v) = %q, not %q", c.c, got, c.want)
		}
	}
}

func TestP15CamerasAreRecovered(t *testing.T) {
	check := func(c impl.Camera) {
		if got, ok := impl.ParseCamera(impl.FormatCamera(c)); got != c || !ok {
			t.Fatalf("ParseCamera(FormatCamera(%+v)) = %+v, %v", c, got, ok)
		}
	}
	for _, c := range validCameras() {
		check(c)
	}
	for k, ends := range cameraRanges() {
		step := max(1, (ends[1]-ends[0])/5000)
		for n := ends[0]; n <= ends[1]; n += step {
			for _, c := range withDeep(withNumber(camera(6, 7, 300, 20, false, 9, 50), k, n)) {
				check(c)
			}
		}
	}
	for w := 1; w <= 12; w++ {
		for h := 1; h <= 12; h++ {
			for lens := 0; lens <= 64; lens++ {
				for _, c := range withDeep(camera(w, h, 1+w*h*455, 1+lens*15624, false, lens, 1000000-lens*h)) {
					check(c)
				}
			}
		}
	}
}

func TestP15ParseCamera(t *testing.T) {
	cases := []struct {
		s    string
		want impl.Camera
	}{
		{"2,2,256,1,0,0,0", documentCamera()}, {"2,2,256,1,1,0,0", camera(2, 2, 256, 1, true, 0, 0)}, {"1,1,1,1,0,0,0", leastCamera()}, {"12,12,65536,1000000,1,64,1000000", greatestCamera()}, {"3,4,5,6,1,7,8", camera(3, 4, 5, 6, true, 7, 8)}, {"3,4,5,6,0,7,8", camera(3, 4, 5, 6, false, 7, 8)},
	}
	for _, c := range cases {
		if got, ok := impl.ParseCamera(c.s); got != c.want || !ok {
			t.Errorf("ParseCamera(%q) = %+v, %v", c.s, got, ok)
		}
	}
}

// cameraTextWith writes a camera with the given word in one of its seven places.
func cameraTextWith(place int, word string) string {
	words := strings.Split("3,4,5,6,1,7,8", ",")
	words[place] = word
	return strings.Join(words, ",")
}

func wantNoCamera(t *testing.T, s string) {
	t.Helper()
	if c, ok := impl.ParseCamera(s); c != (impl.Camera{}) || ok {
		t.Errorf("ParseCamera(%q) = %+v, %v", s, c, ok)
	}
}

func TestP15ParseCameraRejects(t *testing.T) {
	rejected := []string{
		"", "-", ",", " ", "\n", "x", "camera", "0", "1", "2,2,256,1,0,0", "2,2,256,1,0,0,0,0", "2,2,256", "2,2,256,1", "1,1,1,1,1,1,1,1", "1,1,1,1,1,1", "2,2,256,1,0,0,", ",2,2,256,1,0,0,0", "2,2,256,1,0,0,0,", "2,2,256,1,,0,0,0", "2,2,,256,1,0,0", ",,,,,,", "-,-,-,-,-,-,-",
		" 2,2,256,1,0,0,0", "2,2,256,1,0,0,0 ", "2, 2,256,1,0,0,0", "2,2,256,1 ,0,0,0", "2 2 256 1 0 0 0", "2,2,256,1,0,0,0\n", "\t2,2,256,1,0,0,0", "2;2;256;1;0;0;0", "2,2,256,1;0,0,0", "2,2,256,1,0,0.0", "2,2,256,1,0,0,0\x00", "2,2,256,1,0,0,\xff", "camera 2,2,256,1,0,0,0", "2,2,256,1,false,0,0", "2,2,256,1,true,0,0",
		"+2,2,256,1,0,0,0", "2,2,0256,1,0,0,0", "2,2,256,1,00,0,0", "2,2,256,1,01,0,0", "2,2,256,1,-0,0,0", "2,2,256,1,+0,0,0", "2,2,256,1,+1,0,0", "2,2,256,1,0,-0,0", "2,2,256,1,0,0,+0", "2,2,256,1,0,0,-0", "2,2,0x100,1,0,0,0", "2,2,1e2,1,0,0,0", "2,2,2_56,1,0,0,0",
		"0,0,0,0,0,0,0", "0,2,256,1,0,0,0", "2,13,256,1,0,0,0", "2,2,0,1,0,0,0", "2,2,65537,1,0,0,0", "2,2,256,0,0,0,0", "2,2,256,1000001,0,0,0", "2,2,256,1,0,65,0", "2,2,256,1,0,-1,0", "2,2,256,1,0,0,-1", "2,2,256,1,0,0,1000001", "-2,-2,-256,-1,0,0,0", "13,13,65537,1000001,2,65,1000001", strings.Repeat("1,", 500) + "1",
	}
	for _, s := range rejected {
		wantNoCamera(t, s)
	}
	for _, n := range []string{"2", "3", "-1", "-2", "10", "11", "100", "256", "1000000000", "-1000000000", "4294967296", "4294967297", "18446744073709551616", "18446744073709551617"} {
		wantNoCamera(t, cameraTextWith(4, n))
		wantNoCamera(t, "2,2,256,1,"+n+",0,0")
	}
	// Each number in turn is replaced by a word that cannot stand in any place, or by one beyond the end of its range.
	common := []string{"", "-", "+1", "-0", "00", "01", "-01", "1.0", "x", " 1", "1 ", "1\n", "１", "1,", "1000000001", "4294967297", "9223372036854775807", "9223372036854775808", "-9223372036854775809", "18446744073709551617", "18446744073709551616"}
	for place := range 7 {
		for _, word := range common {
			wantNoCamera(t, cameraTextWith(place, word))
		}
		if _, ok := impl.ParseCamera(cameraTextWith(place, "1")); !ok {
			t.Errorf("1 in place %d is rejected", place)
		}
	}
	for k, ends := range cameraRanges() {
		place := []int{0, 1, 2, 3, 5, 6}[k]
		for _, n := range []int{ends[0] - 1, ends[1] + 1, -ends[1], 1000000000, -1000000000} {
			wantNoCamera(t, cameraTextWith(place, strconv.Itoa(n)))
		}
		for _, n := range ends {
			if got, ok := impl.ParseCamera(cameraTextWith(place, strconv.Itoa(n))); !ok || cameraNumbers(got)[k] != n {
				t.Errorf("%d in place %d is read as %+v, %v", n, place, got, ok)
			}
		}
	}
}

// Every text that is parsed is the text of the camera that is returned.
func TestP15ParseCameraOfManyTexts(t *testing.T) {
	alphabet, count := []string{"0", "1", "2", "-1", "12", "13", "", "01"}, 0
	var try func(words []string)
	try = func(words []string) {
		if len(words) < 7 {
			for _, word := range alphabet {
				try(append(slices.Clip(words), word))
			}
			return
		}
		s := strings.Join(words, ",")
		c, ok := impl.ParseCamera(s)
		if ok && wantCameraText(c) != s || !ok && c != (impl.Camera{}) {
			t.Fatalf("ParseCamera(%q) = %+v, %v", s, c, ok)
		}
		if ok {
			count++
		}
	}
	for _, first := range []string{"1", "12", "13"} {
		try([]string{first, "2"})
	}
	// Two widths; Zoom is 1, 2, 12 or 13, and so is Near; Deep is 0 or 1; Lens and Focus are 0, 1, 2, 12 or 13.
	if want := 2 * 4 * 4 * 2 * 5 * 5; count != want {
		t.Errorf("%d texts are parsed, not %d", count, want)
	}
}

// cameraText writes results of all functions of chapter 9 for c.
func cameraText(c impl.Camera) string {
	var text strings.Builder
	fmt.Fprintln(&text, impl.IsValidCamera(c), impl.ViewBounds(c), impl.FormatCamera(c))
	parsed, ok := impl.ParseCamera(impl.FormatCamera(c))
	fmt.Fprintln(&text, parsed, ok)
	for _, z := range depths(c) {
		v, ok := impl.Project(c, vec(77, -78, z), 13, -16)
		i, j, isPixel := impl.PixelAt(c, v.X, v.Y)
		fmt.Fprintln(&text, v, ok, i, j, isPixel)
	}
	return text.String()
}

func TestP15CameraFunctionsRepeatTheirResults(t *testing.T) {
	l := anyCameras()
	var want []string
	for _, c := range l {
		want = append(want, cameraText(c))
	}
	for range 2 {
		for k := len(l) - 1; k >= 0; k-- {
			if got := cameraText(l[k]); got != want[k] {
				t.Fatalf("%+v has the results %s after %s", l[k], got, want[k])
			}
		}
	}
}
