package tests

import (
	"math"
	"slices"
	"testing"

	"loop.example/g03313/impl"
)

// scaledPlace finds ScalePoint without a division: the last pixel that begins at place k or
// before it, when each of the from pixels is to/from places wide.
func scaledPlace(from, to, k int) int {
	place := 0
	for (place+1)*to <= k*from {
		place++
	}
	return place
}

// tiledPlace finds the pixel of a tile at place k by leaving out whole tiles.
func tiledPlace(from, k int) int {
	for k >= from {
		k -= from
	}
	return k
}

func scaledImage(i impl.Image, w, h int) impl.Image {
	return drawnImage(w, h, func(x, y int) int { return i.Data[scaledPlace(i.H, h, y)*i.W+scaledPlace(i.W, w, x)] })
}

func tiledImage(i impl.Image, w, h int) impl.Image {
	return drawnImage(w, h, func(x, y int) int { return i.Data[tiledPlace(i.H, y)*i.W+tiledPlace(i.W, x)] })
}

func TestScalePointExamples(t *testing.T) {
	cases := []struct {
		from, to int
		want     []int
	}{
		{1, 1, []int{0}},
		{1, 3, []int{0, 0, 0}},
		{2, 1, []int{0}},
		{2, 3, []int{0, 0, 1}},
		{2, 4, []int{0, 0, 1, 1}},
		{3, 2, []int{0, 1}},
		{3, 4, []int{0, 0, 1, 2}},
		{4, 2, []int{0, 2}},
		{4, 3, []int{0, 1, 2}},
		{3, 7, []int{0, 0, 0, 1, 1, 2, 2}},
		{7, 3, []int{0, 2, 4}},
		{5, 3, []int{0, 1, 3}},
		{16, 5, []int{0, 3, 6, 9, 12}},
		{5, 16, []int{0, 0, 0, 0, 1, 1, 1, 2, 2, 2, 3, 3, 3, 4, 4, 4}},
		{16, 16, []int{0, 1, 2, 3, 4, 5, 6, 7, 8, 9, 10, 11, 12, 13, 14, 15}},
	}
	for _, c := range cases {
		for k, want := range c.want {
			if got := impl.ScalePoint(c.from, c.to, k); got != want {
				t.Errorf("ScalePoint(%d, %d, %d) = %d; want %d", c.from, c.to, k, got, want)
			}
		}
	}
}

// TestScalePoint tries all numbers of pixels, those just outside of the range and places just
// outside among them.
func TestScalePoint(t *testing.T) {
	for from := -2; from <= screenSide+2; from++ {
		for to := -2; to <= screenSide+2; to++ {
			for k := -3; k <= screenSide+4; k++ {
				want := -1
				if 1 <= from && from <= screenSide && 1 <= to && to <= screenSide && 0 <= k && k < to {
					want = scaledPlace(from, to, k)
				}
				if got := impl.ScalePoint(from, to, k); got != want {
					t.Errorf("ScalePoint(%d, %d, %d) = %d; want %d", from, to, k, got, want)
				}
			}
		}
	}
}

// TestScalePointRejectsFarNumbers also tries places that are in the range when a number
// overflows.
func TestScalePointRejectsFarNumbers(t *testing.T) {
	for _, n := range notSides() {
		for _, other := range []int{1, 2, 16, 0, 17, -1, n} {
			for _, k := range []int{0, 1, 15, -1, 16, n, n - 1, other - 1} {
				if a, b := impl.ScalePoint(n, other, k), impl.ScalePoint(other, n, k); a != -1 || b != -1 {
					t.Errorf("ScalePoint of %d, %d and %d is %d, and %d with the first two exchanged", n, other, k, a, b)
				}
			}
		}
	}
	for _, k := range []int{math.MinInt, math.MinInt + 1, -1 << 60, -1 << 32, -1000, -16, -1, 16, 17, 1000, 1 << 32, 1 << 60, 1<<60 + 1, 1 << 62, math.MaxInt} {
		for from := 1; from <= screenSide; from++ {
			for to := 1; to <= screenSide; to++ {
				if got := impl.ScalePoint(from, to, k); got != -1 {
					t.Errorf("ScalePoint(%d, %d, %d) = %d", from, to, k, got)
				}
			}
		}
	}
}

func TestScaledAndTiledLetters(t *testing.T) {
	cases := []struct {
		rows          string
		w, h          int
		scaled, tiled string
	}{
		{"a", 1, 1, "a", "a"},
		{"a", 3, 2, "aaa/aaa", "aaa/aaa"},
		{"ab", 4, 1, "aabb", "abab"},
		{"ab", 3, 2, "aab/aab", "aba/aba"},
		{"a/b", 1, 3, "a/a/b", "a/b/a"},
		{"ab/cd", 4, 4, "aabb/aabb/ccdd/ccdd", "abab/cdcd/abab/cdcd"},
		{"ab/cd", 2, 4, "ab/ab/cd/cd", "ab/cd/ab/cd"},
		{"ab/cd", 4, 2, "aabb/ccdd", "abab/cdcd"},
		{"ab/cd", 3, 3, "aab/aab/ccd", "aba/cdc/aba"},
		{"ab/cd", 1, 1, "a", "a"},
		{"abc/def", 2, 3, "ab/ab/de", "ab/de/ab"},
		{"abc/def", 3, 2, "abc/def", "abc/def"},
		{"abc/def", 5, 1, "aabbc", "abcab"},
		{"abc/def", 1, 5, "a/a/a/d/d", "a/d/a/d/a"},
		{"abcd/efgh/ijkl/mnop", 2, 2, "ac/ik", "ab/ef"},
		{"abcd/efgh/ijkl/mnop", 3, 2, "abc/ijk", "abc/efg"},
		{"abcd/efgh/ijkl/mnop", 2, 5, "ac/ac/eg/ik/mo", "ab/ef/ij/mn/ab"},
	}
	for _, c := range cases {
		if got := impl.Scaled(writtenImage(c.rows), c.w, c.h); !equalImages(got, writtenImage(c.scaled)) {
			t.Errorf("%s scaled to %d by %d is %v; want %s", c.rows, c.w, c.h, got, c.scaled)
		}
		if got := impl.TileImage(writtenImage(c.rows), c.w, c.h); !equalImages(got, writtenImage(c.tiled)) {
			t.Errorf("%s as a tile of %d by %d is %v; want %s", c.rows, c.w, c.h, got, c.tiled)
		}
	}
}

func TestScaledAndTileImage(t *testing.T) {
	for _, size := range someSizes() {
		for _, i := range []impl.Image{unlikePixels(size[0], size[1]), invertedPixels(unlikePixels(size[0], size[1]))} {
			forAllSides(func(w, h int) {
				if got, want := impl.Scaled(i, w, h), scaledImage(i, w, h); !equalImages(got, want) || !impl.ImageOk(got) {
					t.Errorf("Scaled(%v, %d, %d) = %v; want %v", i, w, h, got, want)
				}
				if got, want := impl.TileImage(i, w, h), tiledImage(i, w, h); !equalImages(got, want) || !impl.ImageOk(got) {
					t.Errorf("TileImage(%v, %d, %d) = %v; want %v", i, w, h, got, want)
				}
			})
		}
	}
}

// checkNoScaling checks that Scaled and TileImage reject their arguments.
func checkNoScaling(t *testing.T, i impl.Image, w, h int) {
	t.Helper()
	if got := impl.Scaled(i, w, h); !equalImages(got, impl.Image{}) {
		t.Errorf("Scaled(%v, %d, %d) = %v", i, w, h, got)
	}
	if got := impl.TileImage(i, w, h); !equalImages(got, impl.Image{}) {
		t.Errorf("TileImage(%v, %d, %d) = %v", i, w, h, got)
	}
}

func TestScalingRejectsInvalidImages(t *testing.T) {
	for _, i := range invalidImages() {
		for _, size := range append(someSizes(), [2]int{i.W, i.H}, [2]int{0, 0}, [2]int{0, 1}, [2]int{1, -1}, [2]int{17, 1}) {
			checkNoScaling(t, i, size[0], size[1])
		}
	}
}

// TestScalingChecksPixelsThatAreNotShown rejects images whose only wrong pixel is left out of the
// result.
func TestScalingChecksPixelsThatAreNotShown(t *testing.T) {
	for k := 1; k < 256; k++ {
		i := unlikePixels(16, 16)
		i.Data[k] = -1
		checkNoScaling(t, i, 1, 1)
	}
}

func TestScalingRejectsWrongSides(t *testing.T) {
	for _, n := range notSides() {
		for _, other := range []int{1, 2, 16, n, 0, 17, -1} {
			for _, size := range someSizes() {
				i := unlikePixels(size[0], size[1])
				checkNoScaling(t, i, n, other)
				checkNoScaling(t, i, other, n)
			}
		}
	}
}

// forAllFactors calls a function with all whole numbers of times by which a picture can be
// enlarged in each direction.
func forAllFactors(w, h int, check func(timesX, timesY int)) {
	for timesX := 1; timesX*w <= screenSide; timesX++ {
		for timesY := 1; timesY*h <= screenSide; timesY++ {
			check(timesX, timesY)
		}
	}
}

// TestEnlargedPicturesComeBack enlarges pictures a whole number of times in each direction: each
// pixel becomes a block, and scaling to the old size brings the picture back.
func TestEnlargedPicturesComeBack(t *testing.T) {
	forAllSides(func(w, h int) {
		i := unlikePixels(w, h)
		forAllFactors(w, h, func(timesX, timesY int) {
			enlarged := impl.Scaled(i, timesX*w, timesY*h)
			if want := drawnImage(timesX*w, timesY*h, func(x, y int) int { return i.Data[y/timesY*w+x/timesX] }); !equalImages(enlarged, want) {
				t.Errorf("%v enlarged %d by %d times is %v; want %v", i, timesX, timesY, enlarged, want)
			}
			if back := impl.Scaled(enlarged, w, h); !equalImages(back, i) {
				t.Errorf("%v enlarged %d by %d times and brought back is %v", i, timesX, timesY, back)
			}
			between := impl.Scaled(impl.Scaled(i, timesX*w, h), timesX*w, timesY*h)
			if !equalImages(between, enlarged) {
				t.Errorf("%v enlarged %d times in width and then %d times in height is %v; want %v", i, timesX, timesY, between, enlarged)
			}
		})
	})
}

// firstPlaces finds the first place at which each pixel is shown in a direction.
func firstPlaces(from, to int) []int {
	var places []int
	for k := range to {
		if impl.ScalePoint(from, to, k) == len(places) {
			places = append(places, k)
		}
	}
	return places
}

// TestEnlargedPicturesKeepEachPixel enlarges pictures to any size that is not smaller: those that
// are not enlarged a whole number of times are brought back from the first places of their pixels.
func TestEnlargedPicturesKeepEachPixel(t *testing.T) {
	for _, size := range someSizes() {
		i := unlikePixels(size[0], size[1])
		for w := i.W; w <= screenSide; w++ {
			for h := i.H; h <= screenSide; h++ {
				columns, rows := firstPlaces(i.W, w), firstPlaces(i.H, h)
				if len(columns) != i.W || len(rows) != i.H {
					t.Fatalf("%v enlarged to %d by %d shows the columns at %v and the rows at %v", size, w, h, columns, rows)
				}
				enlarged := impl.Scaled(i, w, h)
				if back := drawnImage(i.W, i.H, func(x, y int) int { return impl.PixelOf(enlarged, columns[x], rows[y]) }); !equalImages(back, i) {
					t.Errorf("%v enlarged to %d by %d is %v, which shows %v", i, w, h, enlarged, back)
				}
			}
		}
	}
}

// TestScalePointKeepsTheOrder checks that no pixel is shown before another one that comes first,
// that enlarging leaves out none, and that shrinking repeats none.
func TestScalePointKeepsTheOrder(t *testing.T) {
	forAllSides(func(from, to int) {
		if first := impl.ScalePoint(from, to, 0); first != 0 {
			t.Errorf("ScalePoint(%d, %d, 0) = %d", from, to, first)
		}
		for k := 1; k < to; k++ {
			step := impl.ScalePoint(from, to, k) - impl.ScalePoint(from, to, k-1)
			if step < 0 || to >= from && step > 1 || to <= from && step < 1 {
				t.Errorf("from place %d to %d of %d, the shown one of %d pixels changes by %d", k-1, k, to, from, step)
			}
		}
		if last := impl.ScalePoint(from, to, to-1); last >= from || to >= from && last != from-1 {
			t.Errorf("ScalePoint(%d, %d, %d) = %d", from, to, to-1, last)
		}
	})
}

func TestScalingToTheSameSizeChangesNothing(t *testing.T) {
	forAllSides(func(w, h int) {
		i := unlikePixels(w, h)
		if scaled, tiled := impl.Scaled(i, w, h), impl.TileImage(i, w, h); !equalImages(scaled, i) || !equalImages(tiled, i) {
			t.Errorf("%v in its own size is %v scaled and %v as a tile", i, scaled, tiled)
		}
	})
}

// TestTiledPicturesComeBack cuts out each whole tile, and what is left of those at the edges.
func TestTiledPicturesComeBack(t *testing.T) {
	for _, size := range someSizes() {
		i := unlikePixels(size[0], size[1])
		forAllSides(func(w, h int) {
			tiled := impl.TileImage(i, w, h)
			for y := 0; y < h; y += i.H {
				for x := 0; x < w; x += i.W {
					tile := rect(0, 0, min(i.W, w-x), min(i.H, h-y))
					got, gotOk := impl.CropImage(tiled, impl.Moved(tile, x, y))
					want, _ := impl.CropImage(i, tile)
					if !gotOk || !equalImages(got, want) {
						t.Errorf("the tile at (%d, %d) of %d by %d pixels of %v is %v; want %v", x, y, w, h, i, got, want)
					}
				}
			}
		})
	}
}

// TestScalingSharesNoMemory scales a picture in front of spare capacity that holds other pixels,
// and changes the results.
func TestScalingSharesNoMemory(t *testing.T) {
	memory := []int{1, 2, 3, 4, 5, 6, 7, 8, 9, 10}
	before := slices.Clone(memory)
	i := impl.Image{W: 3, H: 2, Data: memory[1:7]}
	for _, size := range append(someSizes(), [2]int{i.W, i.H}, [2]int{0, 0}, [2]int{17, 2}) {
		want, wantTiled := impl.Scaled(i, size[0], size[1]), impl.TileImage(i, size[0], size[1])
		for _, changed := range []impl.Image{impl.Scaled(i, size[0], size[1]), impl.TileImage(i, size[0], size[1])} {
			for k := range changed.Data {
				changed.Data[k] = -5
			}
			_ = append(changed.Data, -6)
		}
		if !equalImages(impl.Scaled(i, size[0], size[1]), want) || !equalImages(impl.TileImage(i, size[0], size[1]), wantTiled) || slices.Contains(want.Data, -5) || slices.Contains(wantTiled.Data, -5) {
			t.Errorf("a change of a result of size %v is seen in another one", size)
		}
	}
	if !slices.Equal(memory, before) {
		t.Errorf("the argument became %v", memory)
	}
}
