package tests

import (
	"math"
	"slices"
	"strconv"
	"testing"

	"loop.example/g00809/impl"
)

func sample(x, y, time, lensX, lensY int) impl.Sample {
	return impl.Sample{X: x, Y: y, Time: time, LensX: lensX, LensY: lensY}
}

func sampleFields(s impl.Sample) [5]int {
	return [5]int{s.X, s.Y, s.Time, s.LensX, s.LensY}
}

// withField replaces the field in place k of sampleFields by n.
func withField(s impl.Sample, k, n int) impl.Sample {
	l := sampleFields(s)
	l[k] = n
	return sample(l[0], l[1], l[2], l[3], l[4])
}

func sampleSides() []int {
	return []int{1, 2, 4}
}

// noSampleSides lists numbers of squares by which no pixel is divided, powers and divisors of 16 among them.
func noSampleSides() []int {
	return []int{0, 3, 5, 6, 7, 8, 9, 12, 15, 16, 17, 32, 64, -1, -2, -3, -4, -16, 1<<32 + 1, 1<<32 + 2, 1<<32 + 4, 1 << 62, math.MinInt, math.MinInt + 1, math.MinInt + 2, math.MinInt + 4, math.MaxInt - 1, math.MaxInt}
}

// imageSizes lists cameras with images of every width and of every height.
func imageSizes() []impl.Camera {
	l := []impl.Camera{documentCamera(), leastCamera(), greatestCamera()}
	for w := 1; w <= 12; w++ {
		l = append(l, camera(w, 13-w, 77, 5, w%2 == 0, 3*w, 50*w), camera(w, 1+w*w%12, 256, 1, w%3 == 0, 0, 0))
	}
	return l
}

// outsidePixels lists columns or rows that an image with so many of them does not have. The great ones have a position within the image if a product with 16 wraps around.
func outsidePixels(pixels int) []int {
	l := []int{-1, -2, -pixels, -pixels - 1, -12, pixels, pixels + 1, 12, 13, 16 * pixels, 1000, -1000}
	for _, n := range []int{1 << 32, 1 << 59, 1 << 60, 1 << 61, 1 << 62, math.MinInt} {
		l = append(l, n, n+1, n+pixels-1)
	}
	return append(l, -1<<60, -1<<60+1, math.MaxInt, math.MaxInt-1, math.MaxInt-15)
}

// wantHash follows the document for HashInts. No sum in it is too large for an int.
func wantHash(l []int) int {
	h := 17
	for _, x := range l {
		h = (31*h + within(x, -1000000000, 1000000000)) % 1000003
		if h < 0 {
			h += 1000003
		}
	}
	return h
}

func wantHashRange(l []int, n int) int {
	if n < 1 {
		return 0
	}
	return wantHash(l) % n
}

// wantSamples follows the document's formulas, row by row and column by column.
func wantSamples(c impl.Camera, i, j, side int) []impl.Sample {
	if !wantValidCamera(c) || i < 0 || i >= c.W || j < 0 || j >= c.H || !slices.Contains(sampleSides(), side) {
		return nil
	}
	var l []impl.Sample
	step, k := 16/side, 0
	for row := 0; row < side; row++ {
		for column := 0; column < side; column++ {
			x := i*16 + column*step + wantHashRange([]int{i, j, k, 1}, step)
			y := j*16 + row*step + wantHashRange([]int{i, j, k, 2}, step)
			lensX, lensY := wantHashRange([]int{i, j, k, 4}, 33)-16, wantHashRange([]int{i, j, k, 5}, 33)-16
			l = append(l, sample(x, y, wantHashRange([]int{i, j, k, 3}, 16), lensX, lensY))
			k++
		}
	}
	return l
}

func wantValidSample(c impl.Camera, s impl.Sample) bool {
	isPixel := wantValidCamera(c) && s.X >= 0 && s.Y >= 0 && s.X < 16*c.W && s.Y < 16*c.H
	return isPixel && s.Time >= 0 && s.Time <= 15 && max(s.LensX, s.LensY) <= 16 && min(s.LensX, s.LensY) >= -16
}

// wantMoved interpolates each corner, in numbers without a limit.
func wantMoved(a, b impl.Patch, time int) impl.Patch {
	if time < 0 || time > 16 {
		return a
	}
	x, y := a.Corners, b.Corners
	return patch(wantLerp(x[0], y[0], time, 16), wantLerp(x[1], y[1], time, 16), wantLerp(x[2], y[2], time, 16), wantLerp(x[3], y[3], time, 16))
}

func checkSamples(t *testing.T, c impl.Camera, i, j, side int) {
	t.Helper()
	if got, want := impl.PixelSamples(c, i, j, side), wantSamples(c, i, j, side); !slices.Equal(got, want) {
		t.Fatalf("PixelSamples(%+v, %d, %d, %d) = %+v, not %+v", c, i, j, side, got, want)
	}
}

func wantNoSamples(t *testing.T, c impl.Camera, i, j, side int) {
	t.Helper()
	if got := impl.PixelSamples(c, i, j, side); len(got) != 0 {
		t.Fatalf("PixelSamples(%+v, %d, %d, %d) has %d samples", c, i, j, side, len(got))
	}
}

func checkValidSample(t *testing.T, c impl.Camera, s impl.Sample) {
	t.Helper()
	if got := impl.IsValidSample(c, s); got != wantValidSample(c, s) {
		t.Fatalf("IsValidSample(%+v, %+v) = %v", c, s, got)
	}
}

func checkMoved(t *testing.T, a, b impl.Patch, time int) {
	t.Helper()
	if got, want := impl.InterpolatePatch(a, b, time), wantMoved(a, b, time); got != want {
		t.Fatalf("InterpolatePatch(%v, %v, %d) = %v, not %v", a, b, time, got, want)
	}
}

// isBetween reports whether each component of v is between those of a and b, the ends included.
func isBetween(v, a, b impl.Vec) bool {
	for k, n := range parts(v) {
		if n < min(parts(a)[k], parts(b)[k]) || n > max(parts(a)[k], parts(b)[k]) {
			return false
		}
	}
	return true
}

func TestP4SamplesAreStratifiedOverPixels(t *testing.T) {
	for _, c := range imageSizes() {
		for _, side := range sampleSides() {
			step := 16 / side
			for j := range c.H {
				for i := range c.W {
					l := impl.PixelSamples(c, i, j, side)
					if len(l) != side*side {
						t.Fatalf("pixel %d, %d of %+v has %d samples for the side %d", i, j, c, len(l), side)
					}
					count := map[[2]int]int{}
					for _, s := range l {
						if x, y := s.X-16*i, s.Y-16*j; x >= 0 && x < 16 && y >= 0 && y < 16 {
							count[[2]int{x / step, y / step}]++
						}
					}
					for square := range side * side {
						if n := count[[2]int{square % side, square / side}]; n != 1 {
							t.Errorf("square %d of pixel %d, %d of %+v has %d samples for the side %d", square, i, j, c, n, side)
						}
					}
				}
			}
		}
	}
}

func TestP4SamplesLieInTheirPixel(t *testing.T) {
	for _, c := range imageSizes() {
		for _, side := range sampleSides() {
			for j := range c.H {
				for i := range c.W {
					for _, s := range impl.PixelSamples(c, i, j, side) {
						if !impl.IsValidSample(c, s) || !wantValidSample(c, s) {
							t.Errorf("the sample %+v of pixel %d, %d of %+v is not valid", s, i, j, c)
						}
						if column, row, ok := impl.PixelAt(c, s.X, s.Y); column != i || row != j || !ok {
							t.Errorf("the sample %+v of pixel %d, %d of %+v lies in pixel %d, %d, %v", s, i, j, c, column, row, ok)
						}
					}
				}
			}
		}
	}
}

// The squares of all pixels together divide the image.
func TestP4SamplesAreStratifiedOverTheImage(t *testing.T) {
	for _, c := range imageSizes() {
		for _, side := range sampleSides() {
			step := 16 / side
			seen := map[[2]int]bool{}
			for j := range c.H {
				for i := range c.W {
					for _, s := range impl.PixelSamples(c, i, j, side) {
						seen[[2]int{s.X / step, s.Y / step}] = true
					}
				}
			}
			for x := range c.W * side {
				for y := range c.H * side {
					if !seen[[2]int{x, y}] {
						t.Errorf("%+v has no sample in square %d, %d for the side %d", c, x, y, side)
					}
				}
			}
			if len(seen) != c.W*c.H*side*side {
				t.Errorf("%+v has samples in %d squares for the side %d", c, len(seen), side)
			}
		}
	}
}

// movingPatches pairs patches inside and beyond the range with such of other places, and with themselves.
func movingPatches() [][2]impl.Patch {
	var l [][2]impl.Patch
	all := anyPatches()
	for i, a := range all {
		l = append(l, [2]impl.Patch{a, a}, [2]impl.Patch{a, clampedPatch(a)})
		for _, k := range []int{1, 2, 5, 29, 100, 301, 444} {
			l = append(l, [2]impl.Patch{a, all[(i+k)%len(all)]})
		}
	}
	for _, a := range fewPatches() {
		for _, b := range fewPatches() {
			l = append(l, [2]impl.Patch{a, b})
		}
	}
	return l
}

func TestP4MovingPatchesStayBetweenTheirPositions(t *testing.T) {
	for _, pair := range movingPatches() {
		a, b := clampedPatch(pair[0]), clampedPatch(pair[1])
		for time := range 17 {
			moved := impl.InterpolatePatch(pair[0], pair[1], time)
			for k, v := range moved.Corners {
				if !isBetween(v, a.Corners[k], b.Corners[k]) {
					t.Fatalf("corner %d of the patch from %v to %v is %v at %d", k, a, b, v, time)
				}
			}
		}
	}
}

// At a time outside the shutter the patch is at its first position, even if that is not valid.
func TestP4PatchesDoNotMoveOutsideTheShutter(t *testing.T) {
	for _, pair := range movingPatches() {
		for _, time := range []int{-1, -2, -16, 17, 18, 32, 33, 1<<32 + 8, math.MinInt, math.MinInt + 8, math.MaxInt - 7, math.MaxInt} {
			if got := impl.InterpolatePatch(pair[0], pair[1], time); got != pair[0] {
				t.Fatalf("InterpolatePatch(%v, %v, %d) = %v", pair[0], pair[1], time, got)
			}
		}
	}
}

func TestP4MovingPatchesStartAndEndAtTheirPositions(t *testing.T) {
	for _, pair := range movingPatches() {
		if got := impl.InterpolatePatch(pair[0], pair[1], 0); got != clampedPatch(pair[0]) {
			t.Fatalf("the patch from %v to %v starts at %v", pair[0], pair[1], got)
		}
		if got := impl.InterpolatePatch(pair[0], pair[1], 16); got != clampedPatch(pair[1]) {
			t.Fatalf("the patch from %v to %v ends at %v", pair[0], pair[1], got)
		}
	}
}

func TestP4RestingPatchesDoNotMove(t *testing.T) {
	for _, p := range anyPatches() {
		for time := range 17 {
			if got := impl.InterpolatePatch(p, p, time); got != clampedPatch(p) {
				t.Fatalf("InterpolatePatch(%v, the same, %d) = %v", p, time, got)
			}
		}
	}
}

func TestP4MovingPatchesDoNotTurnBack(t *testing.T) {
	for _, pair := range movingPatches() {
		end := clampedPatch(pair[1])
		last := impl.InterpolatePatch(pair[0], pair[1], 0)
		for time := 1; time <= 16; time++ {
			next := impl.InterpolatePatch(pair[0], pair[1], time)
			for k, v := range next.Corners {
				if !isBetween(v, last.Corners[k], end.Corners[k]) {
					t.Fatalf("corner %d of the patch from %v to %v turns back at %d: %v", k, pair[0], end, time, v)
				}
			}
			last = next
		}
	}
}

// All points of a moving patch stay in the smallest box that contains both positions.
func TestP4PointsOfMovingPatchesStayInTheBoundsOfBothPositions(t *testing.T) {
	for i, pair := range movingPatches() {
		bounds := wantUnion(impl.PatchBounds(pair[0]), impl.PatchBounds(pair[1]))
		for time := i % 3; time <= 16; time += 3 {
			moved := impl.InterpolatePatch(pair[0], pair[1], time)
			for _, at := range [][2]int{{0, 0}, {3, 0}, {1, 2}, {2, 1}, {2, 2}, {0, 3}, {3, 3}} {
				if v := impl.EvalPatch(moved, at[0], at[1], 3); !isBetween(v, bounds.Lo, bounds.Hi) {
					t.Fatalf("a point of the patch from %v to %v is %v at %d", pair[0], pair[1], v, time)
				}
			}
		}
	}
}

func TestP4PatchesStayBetweenTheirPositionsAtTheTimesOfSamples(t *testing.T) {
	a, b := mixedPatch(), widePatch()
	times := map[int]bool{}
	c := greatestCamera()
	for j := range c.H {
		for i := range c.W {
			for _, s := range impl.PixelSamples(c, i, j, 4) {
				times[s.Time] = true
				moved := impl.InterpolatePatch(a, b, s.Time)
				for k, v := range moved.Corners {
					if !isBetween(v, a.Corners[k], b.Corners[k]) || v == b.Corners[k] {
						t.Errorf("corner %d is %v for the sample %+v", k, v, s)
					}
				}
			}
		}
	}
	if len(times) != 16 {
		t.Errorf("the samples have %d different times", len(times))
	}
}

func TestP15MaxSampleSide(t *testing.T) {
	if impl.MaxSampleSide != 4 {
		t.Errorf("MaxSampleSide is %d", impl.MaxSampleSide)
	}
}

// hashedLists lists none, one and many numbers of both signs.
func hashedLists() [][]int {
	l := [][]int{nil, {}, {1, 2, 3, 4, 5, 6, 7, 8, 9, 10}, {-1, -2, -3}, {0, 0, 0, 1}, make([]int, 500), extremeInts(), numbersInRange()}
	for n := -40; n <= 40; n++ {
		l = append(l, []int{n}, []int{n, 7 * n, 3 - n}, []int{n, n, n, n, n, n, n})
	}
	for _, a := range extremeInts() {
		for _, b := range extremeInts() {
			l = append(l, []int{a}, []int{a, b}, []int{b, b, a, 5})
		}
	}
	return l
}

func hashRanges() []int {
	l := []int{1, 2, 3, 4, 5, 8, 16, 17, 18, 31, 32, 33, 34, 1000, 65537, 1000001, 1000002, 1000003, 1000004, 2000006, 1 << 32, 1<<32 + 33}
	return append(append(l, -1, -2, -16, -33, -1000003), extremeInts()...)
}

func TestP15HashRange(t *testing.T) {
	for _, l := range hashedLists() {
		for _, n := range hashRanges() {
			if got := impl.HashRange(l, n); got != wantHashRange(l, n) {
				t.Errorf("HashRange(%v, %d) = %d, not %d", l, n, got, wantHashRange(l, n))
			}
		}
	}
}

func TestP15HashRangeStaysInItsRange(t *testing.T) {
	for _, l := range hashedLists() {
		for _, n := range hashRanges() {
			if got := impl.HashRange(l, n); got < 0 || n >= 1 && got >= n || n < 1 && got != 0 {
				t.Errorf("HashRange(%v, %d) = %d", l, n, got)
			}
		}
	}
}

func TestP15HashRangeCases(t *testing.T) {
	cases := []struct {
		l       []int
		n, want int
	}{
		{nil, 1, 0}, {nil, 2, 1}, {nil, 5, 2}, {nil, 16, 1}, {nil, 17, 0}, {nil, 18, 17}, {nil, 33, 17}, {nil, 1000003, 17}, {[]int{}, 5, 2}, {[]int{}, math.MaxInt, 17},
		{nil, 0, 0}, {nil, -1, 0}, {nil, -5, 0}, {nil, math.MinInt, 0}, {nil, math.MinInt + 1, 0}, {[]int{5}, 0, 0}, {[]int{5}, -33, 0}, {[]int{-528}, math.MinInt, 0},
		{[]int{0}, 33, 32}, {[]int{1}, 2, 0}, {[]int{1}, 33, 0}, {[]int{1, 2}, 33, 2}, {[]int{2, 1}, 33, 32}, {[]int{0, 0, 0, 1}, 16, 5}, {[]int{-1, -2, -3}, 16, 13},
		{[]int{-527}, 5, 0}, {[]int{-527}, 1000003, 0}, {[]int{-528}, 1000003, 1000002}, {[]int{-528}, 1000002, 0}, {[]int{-528}, 1000001, 1}, {[]int{-528}, 1000004, 1000002}, {[]int{-528}, math.MaxInt, 1000002}, {[]int{-528}, 1, 0},
		{[]int{impl.MaxNum}, 1000, 530}, {[]int{math.MaxInt}, 1000, 530}, {[]int{impl.MaxNum + 1}, 1000, 530}, {[]int{-impl.MaxNum}, 1000, 527}, {[]int{math.MinInt}, 1000, 527}, {[]int{-impl.MaxNum - 1}, 1000, 527},
		{[]int{1, 2, 3, 4, 5, 6, 7, 8, 9, 10}, 33, 3}, {[]int{1, 2, 3, 4, 5, 6, 7, 8, 9, 10}, 1000003, 57720},
	}
	for _, c := range cases {
		if got := impl.HashRange(c.l, c.n); got != c.want {
			t.Errorf("HashRange(%v, %d) = %d, not %d", c.l, c.n, got, c.want)
		}
	}
}

func TestP15PixelSamples(t *testing.T) {
	for _, c := range imageSizes() {
		for j := -1; j <= c.H; j++ {
			for i := -1; i <= c.W; i++ {
				for side := -1; side <= 9; side++ {
					checkSamples(t, c, i, j, side)
				}
			}
		}
	}
}

func TestP15PixelSamplesOfManyCameras(t *testing.T) {
	for _, c := range anyCameras() {
		for _, i := range []int{0, 1, c.W / 2, c.W - 1, c.W, -1} {
			for _, j := range []int{0, 1, c.H / 2, c.H - 1, c.H, -1} {
				for _, side := range []int{1, 2, 3, 4} {
					checkSamples(t, c, i, j, side)
				}
			}
		}
	}
}

func TestP15PixelSamplesCases(t *testing.T) {
	wide, high := camera(12, 1, 256, 1, true, 64, 5), camera(1, 12, 256, 1, false, 64, 5)
	cases := []struct {
		c          impl.Camera
		i, j, side int
		want       []impl.Sample
	}{
		{documentCamera(), 0, 0, 1, []impl.Sample{sample(5, 6, 7, 2, 3)}},
		{leastCamera(), 0, 0, 1, []impl.Sample{sample(5, 6, 7, 2, 3)}},
		{documentCamera(), 1, 0, 1, []impl.Sample{sample(20, 5, 6, -6, -5)}},
		{documentCamera(), 0, 0, 2, []impl.Sample{sample(5, 6, 7, 2, 3), sample(12, 5, 6, 0, 1), sample(3, 12, 5, -2, -1), sample(10, 11, 4, -4, -3)}},
		{documentCamera(), 1, 0, 2, []impl.Sample{sample(20, 5, 6, -6, -5), sample(27, 4, 5, -8, -7), sample(18, 11, 4, -10, -9), sample(25, 10, 3, -12, -11)}},
		{documentCamera(), 0, 1, 2, []impl.Sample{sample(6, 23, 8, 6, 7), sample(13, 22, 7, 4, 5), sample(4, 29, 6, 2, 3), sample(11, 28, 5, 0, 1)}},
		{documentCamera(), 1, 1, 2, []impl.Sample{sample(21, 22, 7, -2, -1), sample(28, 21, 6, -4, -3), sample(19, 28, 5, -6, -5), sample(26, 27, 4, -8, -7)}},
		{high, 0, 1, 2, []impl.Sample{sample(6, 23, 8, 6, 7), sample(13, 22, 7, 4, 5), sample(4, 29, 6, 2, 3), sample(11, 28, 5, 0, 1)}},
		{wide, 11, 0, 2, []impl.Sample{sample(183, 0, 9, 9, 10), sample(190, 7, 8, 7, 8), sample(181, 14, 7, 5, 6), sample(188, 13, 6, 3, 4)}},
		{greatestCamera(), 11, 11, 1, []impl.Sample{sample(178, 179, 4, -13, -12)}},
		{greatestCamera(), 11, 11, 2, []impl.Sample{sample(178, 179, 4, -13, -12), sample(185, 178, 3, -15, -14), sample(176, 185, 2, 16, -16), sample(191, 184, 1, 14, 15)}},
		{camera(3, 5, 1, 1, false, 0, 0), 2, 4, 4, []impl.Sample{
			sample(35, 64, 9, 2, 3), sample(38, 67, 8, 0, 1), sample(41, 66, 7, -2, -1), sample(44, 65, 6, -4, -3),
			sample(35, 68, 5, -6, -5), sample(38, 71, 4, -8, -7), sample(41, 70, 3, -10, -9), sample(44, 69, 2, -12, -11),
			sample(35, 72, 1, -14, -13), sample(38, 75, 0, -16, -15), sample(41, 74, 15, 15, 16), sample(44, 73, 14, 13, 14),
			sample(35, 76, 13, 11, 12), sample(38, 79, 12, 9, 10), sample(41, 78, 11, 7, 8), sample(44, 77, 10, 5, 6),
		}},
		{documentCamera(), 0, 0, 3, nil}, {documentCamera(), 2, 0, 1, nil}, {documentCamera(), 0, 2, 1, nil}, {documentCamera(), -1, 0, 1, nil}, {documentCamera(), 0, -1, 1, nil},
		{wide, 0, 1, 2, nil}, {high, 1, 0, 2, nil}, {greatestCamera(), 12, 11, 4, nil}, {greatestCamera(), 11, 12, 4, nil}, {impl.Camera{}, 0, 0, 1, nil}, {camera(13, 1, 1, 1, false, 0, 0), 0, 0, 1, nil},
	}
	for _, c := range cases {
		if got := impl.PixelSamples(c.c, c.i, c.j, c.side); !slices.Equal(got, c.want) {
			t.Errorf("PixelSamples(%+v, %d, %d, %d) = %+v, not %+v", c.c, c.i, c.j, c.side, got, c.want)
		}
	}
}

// Only the size of the image counts.
func TestP15PixelSamplesDependOnThePixelOnly(t *testing.T) {
	large := greatestCamera()
	for _, c := range imageSizes() {
		for j := range c.H {
			for i := range c.W {
				for _, side := range sampleSides() {
					if got, want := impl.PixelSamples(c, i, j, side), impl.PixelSamples(large, i, j, side); !slices.Equal(got, want) {
						t.Errorf("PixelSamples(%+v, %d, %d, %d) = %v, not %v", c, i, j, side, got, want)
					}
				}
			}
		}
	}
}

func TestP15PixelSamplesRejectsSides(t *testing.T) {
	for _, c := range imageSizes() {
		for _, side := range noSampleSides() {
			wantNoSamples(t, c, 0, 0, side)
			wantNoSamples(t, c, c.W-1, c.H-1, side)
			wantNoSamples(t, c, c.W, 0, side)
		}
	}
}

func TestP15PixelSamplesRejectsPixels(t *testing.T) {
	for _, c := range imageSizes() {
		for _, side := range sampleSides() {
			for _, i := range outsidePixels(c.W) {
				for j := range c.H {
					wantNoSamples(t, c, i, j, side)
				}
				for _, j := range outsidePixels(c.H) {
					wantNoSamples(t, c, i, j, side)
				}
			}
			for _, j := range outsidePixels(c.H) {
				for i := range c.W {
					wantNoSamples(t, c, i, j, side)
				}
			}
		}
	}
}

func TestP15PixelSamplesRejectsCameras(t *testing.T) {
	for _, c := range invalidCameras() {
		for _, i := range []int{0, 1, 5, c.W - 1, c.W, -1} {
			for _, j := range []int{0, 1, 5, c.H - 1, c.H, -1} {
				for _, side := range sampleSides() {
					wantNoSamples(t, c, i, j, side)
				}
			}
		}
	}
}

// shutterTimes lists times around the ends of the shutter and of the range of Time.
func shutterTimes() []int {
	return []int{0, 1, 7, 8, 14, 15, 16, 17, -1, -2, -15, -16, 31, 32, 1 << 32, 1<<32 + 5, math.MinInt, math.MinInt + 1, math.MaxInt - 1, math.MaxInt}
}

func lensEnds() []int {
	return []int{0, 1, -1, 15, -15, 16, -16, 17, -17, 18, -18, 33, -33, 1 << 32, 1<<32 - 16, math.MinInt, math.MinInt + 1, math.MaxInt - 1, math.MaxInt}
}

func TestP15IsValidSamplePositions(t *testing.T) {
	for _, c := range anyCameras() {
		for _, x := range positions(within(c.W, 1, 13)) {
			for _, y := range positions(within(c.H, 1, 13)) {
				checkValidSample(t, c, sample(x, y, 15, -16, 16))
			}
		}
	}
	for _, c := range imageSizes() {
		for x := -2; x < 195; x++ {
			for _, y := range []int{-1, 0, 16*c.H - 1, 16 * c.H} {
				checkValidSample(t, c, sample(x, y, 0, 16, -16))
			}
		}
	}
}

func TestP15IsValidSampleTimesAndLensPositions(t *testing.T) {
	for _, c := range append(imageSizes(), invalidCameras()[:40]...) {
		for _, time := range shutterTimes() {
			for _, lensX := range lensEnds() {
				for _, lensY := range lensEnds() {
					checkValidSample(t, c, sample(3, 15, time, lensX, lensY))
					checkValidSample(t, c, sample(16*c.W-1, 16*c.H-1, time, lensX, lensY))
				}
				checkValidSample(t, c, sample(-1, 0, time, lensX, 0))
				checkValidSample(t, c, sample(0, 16*c.H, time, 0, lensX))
			}
		}
	}
}

func TestP15IsValidSampleCases(t *testing.T) {
	middle := sample(16, 15, 8, 3, -4)
	cases := []struct {
		c    impl.Camera
		s    impl.Sample
		want bool
	}{
		{documentCamera(), impl.Sample{}, true}, {leastCamera(), impl.Sample{}, true}, {impl.Camera{}, impl.Sample{}, false}, {documentCamera(), middle, true},
		{leastCamera(), sample(15, 15, 15, 16, 16), true}, {leastCamera(), sample(16, 15, 15, 16, 16), false}, {leastCamera(), sample(15, 16, 15, 16, 16), false},
		{greatestCamera(), sample(191, 191, 15, -16, -16), true}, {greatestCamera(), sample(192, 191, 15, -16, -16), false}, {greatestCamera(), sample(191, 192, 15, -16, -16), false},
		{documentCamera(), withField(middle, 0, 0), true}, {documentCamera(), withField(middle, 0, -1), false}, {documentCamera(), withField(middle, 0, 31), true}, {documentCamera(), withField(middle, 0, 32), false},
		{documentCamera(), withField(middle, 1, 0), true}, {documentCamera(), withField(middle, 1, -1), false}, {documentCamera(), withField(middle, 1, 31), true}, {documentCamera(), withField(middle, 1, 32), false},
		{documentCamera(), withField(middle, 2, 0), true}, {documentCamera(), withField(middle, 2, -1), false}, {documentCamera(), withField(middle, 2, 15), true}, {documentCamera(), withField(middle, 2, 16), false},
		{documentCamera(), withField(middle, 3, -16), true}, {documentCamera(), withField(middle, 3, -17), false}, {documentCamera(), withField(middle, 3, 16), true}, {documentCamera(), withField(middle, 3, 17), false},
		{documentCamera(), withField(middle, 4, -16), true}, {documentCamera(), withField(middle, 4, -17), false}, {documentCamera(), withField(middle, 4, 16), true}, {documentCamera(), withField(middle, 4, 17), false},
		{camera(13, 2, 256, 1, false, 0, 0), middle, false}, {camera(2, 0, 256, 1, false, 0, 0), middle, false}, {camera(2, 2, 0, 1, false, 0, 0), middle, false}, {camera(2, 2, 256, 0, false, 0, 0), middle, false}, {camera(2, 2, 256, 1, true, 65, 0), middle, false}, {camera(2, 2, 256, 1, true, 0, -1), middle, false},
	}
	for _, c := range cases {
		if got := impl.IsValidSample(c.c, c.s); got != c.want {
			t.Errorf("IsValidSample(%+v, %+v) = %v", c.c, c.s, got)
		}
	}
}

func TestP15IsValidSampleRejectsExtremeFields(t *testing.T) {
	for _, c := range imageSizes() {
		for k := range 5 {
			for _, n := range extremeInts() {
				checkValidSample(t, c, withField(sample(0, 5, 6, 7, -8), k, n))
			}
			for _, n := range []int{math.MinInt, math.MinInt + 1, math.MinInt / 2, math.MaxInt / 2, math.MaxInt - 1, math.MaxInt, 1 << 32, 1<<32 + 1, 1 << 60, -1 << 60} {
				if s := withField(sample(0, 5, 6, 7, -8), k, n); impl.IsValidSample(c, s) {
					t.Errorf("IsValidSample(%+v, %+v)", c, s)
				}
			}
		}
	}
}

func TestP15IsValidSampleRejectsCameras(t *testing.T) {
	for _, c := range invalidCameras() {
		for _, s := range []impl.Sample{{}, sample(3, 4, 5, 6, 7), sample(15, 15, 15, 16, 16), sample(-1, -1, 0, 0, 0)} {
			if impl.IsValidSample(c, s) {
				t.Errorf("IsValidSample(%+v, %+v)", c, s)
			}
		}
	}
}

func TestP15InterpolatePatch(t *testing.T) {
	times := append(shutterTimes(), 2, 3, 4, 5, 6, 9, 10, 11, 12, 13, -1000000, 4096, 4097)
	for i, pair := range movingPatches() {
		// The numbers without a limit are slow, so that each pair has a part of the times.
		for k := i % 5; k < len(times); k += 5 {
			checkMoved(t, pair[0], pair[1], times[k])
		}
	}
	for _, a := range append(fewPatches(), beyondPatch()) {
		for _, b := range append(fewPatches(), beyondPatch()) {
			for _, time := range times {
				checkMoved(t, a, b, time)
			}
		}
	}
}

func TestP15InterpolatePatchCases(t *testing.T) {
	a := patch(vec(0, 0, 9), vec(4, 0, 9), vec(0, 4, 9), vec(4, 4, 9))
	b := patch(vec(8, -8, 9), vec(12, -1, 25), vec(-16, 4, 10), vec(3, 5, -23))
	quarter := patch(vec(2, -2, 9), vec(6, -1, 13), vec(-4, 4, 9), vec(3, 4, 1))
	half := patch(vec(4, -4, 9), vec(8, -1, 17), vec(-8, 4, 9), vec(3, 4, -7))
	start := patch(vec(0, -1, 9), vec(4, -1, 10), vec(-1, 4, 9), vec(3, 4, 7))
	end := patch(vec(7, -8, 9), vec(11, -1, 24), vec(-15, 4, 9), vec(3, 4, -21))
	beyond, wide := beyondPatch(), widePatch()
	turned := patch(vec(1000000, -1000000, -1000000), vec(-1000000, 1000000, -1000000), vec(-1000000, -1000000, 1000000), vec(1000000, 1000000, 1000000))
	cases := []struct {
		a, b impl.Patch
		time int
		want impl.Patch
	}{
		{a, b, 0, a}, {a, b, 1, start}, {a, b, 4, quarter}, {a, b, 8, half}, {a, b, 15, end}, {a, b, 16, b}, {b, a, 0, b}, {b, a, 8, half}, {b, a, 12, quarter}, {b, a, 16, a},
		{a, b, -1, a}, {a, b, 17, a}, {a, b, math.MinInt, a}, {a, b, math.MaxInt, a}, {b, a, -1, b}, {b, a, 17, b}, {a, b, -16, a}, {a, b, 32, a}, {a, b, 1<<32 + 16, a},
		{beyond, a, 0, wide}, {beyond, a, 16, a}, {a, beyond, 0, a}, {a, beyond, 16, wide}, {beyond, beyond, 8, wide}, {wide, turned, 8, impl.Patch{}}, {beyond, turned, 8, impl.Patch{}}, {turned, beyond, 8, impl.Patch{}},
		{beyond, a, -1, beyond}, {beyond, a, 17, beyond}, {beyond, a, math.MinInt, beyond}, {beyond, a, math.MaxInt, beyond}, {a, beyond, -1, a}, {a, beyond, 17, a},
	}
	for _, c := range cases {
		if got := impl.InterpolatePatch(c.a, c.b, c.time); got != c.want {
			t.Errorf("InterpolatePatch(%v, %v, %d) = %v, not %v", c.a, c.b, c.time, got, c.want)
		}
	}
}

func wantSampleText(s impl.Sample) string {
	text := ""
	for k, n := range sampleFields(s) {
		if n < -1000000000 || n > 1000000000 {
			return ""
		}
		if k > 0 {
			text += ","
		}
		text += strconv.Itoa(n)
	}
	return text
}

func TestP15FormatSample(t *testing.T) {
	l := []impl.Sample{{}}
	for i, n := range extremeInts() {
		l = append(l, sample(n, n, n, n, n))
		for k := range 5 {
			l = append(l, withField(impl.Sample{}, k, n), withField(sample(-7, 88, -999, 1000000000, -1000000000), k, n))
			for _, m := range extremeInts()[:i] {
				l = append(l, withField(withField(sample(1, 2, 3, 4, 5), k, n), (k+1+i%4)%5, m))
			}
		}
	}
	for _, c := range imageSizes() {
		l = append(l, impl.PixelSamples(c, c.W-1, c.H-1, 4)...)
	}
	for _, s := range l {
		if got := impl.FormatSample(s); got != wantSampleText(s) {
			t.Errorf("FormatSample(%+v) = %q, not %q", s, got, wantSampleText(s))
		}
	}
}

func TestP15FormatSampleCases(t *testing.T) {
	s := sample(1, 2, 3, -4, 5)
	cases := []struct {
		s    impl.Sample
		want string
	}{
		{impl.Sample{}, "0,0,0,0,0"}, {s, "1,2,3,-4,5"}, {sample(-1, -20, -300, -4000, -50000), "-1,-20,-300,-4000,-50000"},
		{sample(1000000000, 1000000000, 1000000000, 1000000000, 1000000000), "1000000000,1000000000,1000000000,1000000000,1000000000"},
		{sample(-1000000000, -1000000000, -1000000000, -1000000000, -1000000000), "-1000000000,-1000000000,-1000000000,-1000000000,-1000000000"},
		{withField(s, 0, 1000000000), "1000000000,2,3,-4,5"}, {withField(s, 1, -1000000000), "1,-1000000000,3,-4,5"}, {withField(s, 2, 16), "1,2,16,-4,5"}, {withField(s, 3, -17), "1,2,3,-17,5"}, {withField(s, 4, 17), "1,2,3,-4,17"},
	}
	for k := range 5 {
		for _, n := range []int{1000000001, -1000000001, math.MinInt, math.MaxInt} {
			cases = append(cases, struct {
				s    impl.Sample
				want string
			}{withField(s, k, n), ""})
		}
	}
	for _, c := range cases {
		if got := impl.FormatSample(c.s); got != c.want {
			t.Errorf("FormatSample(%+v) = %q, not %q", c.s, got, c.want)
		}
	}
}

func TestP15HashRangeChangesNothing(t *testing.T) {
	whole := extremeInts()
	for start := range whole {
		for end := start; end <= len(whole); end++ {
			for _, n := range []int{-1, 0, 1, 33, math.MaxInt} {
				impl.HashRange(whole[start:end], n)
			}
			if !slices.Equal(whole, extremeInts()) {
				t.Fatalf("HashRange of the numbers from %d up to %d changes the slice or what lies behind its length", start, end)
			}
		}
	}
}

// overwriteSamples destroys a list and the spare capacity behind it.
func overwriteSamples(l []impl.Sample) {
	l = l[:cap(l)]
	for k := range l {
		l[k] = sample(-1, -2, -3, -4, -5)
	}
}

func TestP15SampleListsAreNew(t *testing.T) {
	c := documentCamera()
	for _, side := range sampleSides() {
		for _, j := range []int{0, 1} {
			kept := impl.PixelSamples(c, 1, j, side)
			want := slices.Clone(kept)
			for _, other := range sampleSides() {
				overwriteSamples(impl.PixelSamples(c, 1, j, other))
				overwriteSamples(impl.PixelSamples(c, 0, j, other))
			}
			overwriteSamples(append(impl.PixelSamples(c, 1, j, side), sample(9, 9, 9, 9, 9)))
			if !slices.Equal(kept, want) || !slices.Equal(impl.PixelSamples(c, 1, j, side), want) {
				t.Errorf("the samples of pixel 1, %d for the side %d change with those of others", j, side)
			}
		}
	}
}

// sampleResults lists what the functions of the chapter return for some arguments.
func sampleResults(c impl.Camera, pair [2]impl.Patch) ([]impl.Sample, []bool, []impl.Patch, []string, []int) {
	samples := slices.Concat(impl.PixelSamples(c, c.W-1, 0, 1), impl.PixelSamples(c, 0, c.H-1, 2), impl.PixelSamples(c, 0, 0, 4), impl.PixelSamples(c, c.W, 0, 4))
	var areValid []bool
	var moved []impl.Patch
	var texts []string
	var hashes []int
	for _, s := range append(samples, sample(-1, 0, 17, math.MaxInt, 5), sample(3, 200, -1, 0, 0)) {
		areValid = append(areValid, impl.IsValidSample(c, s))
		moved = append(moved, impl.InterpolatePatch(pair[0], pair[1], s.Time))
		texts = append(texts, impl.FormatSample(s))
		hashes = append(hashes, impl.HashRange([]int{s.X, s.Y, s.LensX, s.LensY}, s.Time))
	}
	return samples, areValid, moved, texts, hashes
}

func TestP15SampleFunctionsRepeatTheirResults(t *testing.T) {
	cameras, pairs := anyCameras(), movingPatches()
	for k := len(cameras) - 1; k >= 0; k-- {
		pair := pairs[k%len(pairs)]
		samples, areValid, moved, texts, hashes := sampleResults(cameras[k], pair)
		for range 2 {
			sampleResults(cameras[(k+1)%len(cameras)], pairs[(k+1)%len(pairs)])
			again, stillValid, movedAgain, sameTexts, sameHashes := sampleResults(cameras[k], pair)
			if !slices.Equal(samples, again) || !slices.Equal(areValid, stillValid) || !slices.Equal(moved, movedAgain) || !slices.Equal(texts, sameTexts) || !slices.Equal(hashes, sameHashes) {
				t.Fatalf("the results for %+v and %v are not repeated", cameras[k], pair)
			}
		}
	}
}
