package tests

import (
	"math"
	"slices"
	"testing"

	"loop.example/g03313/impl"
)

// image writes an image on one line of a table.
func image(w, h int, data ...int) impl.Image {
	return impl.Image{W: w, H: h, Data: data}
}

// equalImages compares all fields; a nil slice is an empty one.
func equalImages(a, b impl.Image) bool {
	return a.W == b.W && a.H == b.H && slices.Equal(a.Data, b.Data)
}

// drawnImage draws each pixel of an image by its place.
func drawnImage(w, h int, pixel func(x, y int) int) impl.Image {
	i := image(w, h)
	for y := range h {
		for x := range w {
			i.Data = append(i.Data, pixel(x, y))
		}
	}
	return i
}

// unlikePixels draws an image in which no two pixels are equal: the first one is the lowest pixel
// and the last one, if there are several, the highest.
func unlikePixels(w, h int) impl.Image {
	return drawnImage(w, h, func(x, y int) int {
		if x+y > 0 && x == w-1 && y == h-1 {
			return highestPixel
		}
		return 0x01000102*x + 0x00050020*y
	})
}

// invertedPixels draws the image in which each pixel differs from that of another one.
func invertedPixels(i impl.Image) impl.Image {
	return drawnImage(i.W, i.H, func(x, y int) int { return highestPixel - i.Data[y*i.W+x] })
}

// someSizes are sizes of images, the smallest and the largest in each direction among them.
func someSizes() [][2]int {
	return [][2]int{{1, 1}, {1, 16}, {16, 1}, {16, 16}, {1, 2}, {2, 1}, {2, 3}, {3, 2}, {5, 5}, {15, 16}, {16, 15}, {7, 11}}
}

// imagesOfWrongSize have a size that no image has, or Data of another length than the size says.
func imagesOfWrongSize() []impl.Image {
	ones := slices.Repeat([]int{1}, 300)
	return []impl.Image{
		{}, image(0, 0, 1), image(0, 1), image(1, 0), image(0, 5), image(5, 0), image(0, 1, 1), image(1, 0, 1),
		image(-1, -1, 1), image(-2, -2, ones[:4]...), image(-1, 1, 1), image(1, -1, 1), image(-3, 2, ones[:6]...), image(-16, -16, ones[:256]...),
		image(17, 1, ones[:17]...), image(1, 17, ones[:17]...), image(17, 16, ones[:272]...), image(16, 17, ones[:272]...), image(17, 17, ones[:289]...),
		image(17, 1, ones[:16]...), image(1, 17, ones[:16]...), image(32, 8, ones[:256]...), image(8, 32, ones[:256]...), image(1, 256, ones[:256]...),
		image(1, 1), image(1, 1, 1, 1), image(2, 3, ones[:5]...), image(2, 3, ones[:7]...), image(2, 3, ones[:12]...), image(3, 3, ones[:6]...),
		image(16, 16, ones[:255]...), image(16, 16, ones[:257]...), image(16, 16), image(16, 16, ones[:16]...), image(16, 16, ones...),
		image(1<<32, 1<<32), image(1<<33, 1<<31), image(1<<32+1, 1<<32), image(1<<63-1, 2, ones[:2]...), image(-1<<63, 2), image(-1<<63, -1<<63),
		image(math.MaxInt, math.MaxInt, 1), image(math.MinInt, math.MinInt), image(math.MaxInt, 1, 1), image(1, math.MinInt, 1),
	}
}

// imagesOfWrongData have numbers in Data that are no pixels, at the first place, at the last one
// or between.
func imagesOfWrongData() []impl.Image {
	var list []impl.Image
	for _, n := range notPixels() {
		list = append(list, image(1, 1, n), image(3, 2, n, 1, 2, 3, 4, 5), image(3, 2, 0, 1, 2, 3, 4, n), image(3, 2, 0, 1, n, 3, 4, 5), image(2, 2, n, n, n, n))
		for _, place := range []int{0, 15, 16, 100, 240, 255} {
			large := unlikePixels(16, 16)
			large.Data[place] = n
			list = append(list, large)
		}
	}
	return list
}

func invalidImages() []impl.Image {
	return append(imagesOfWrongSize(), imagesOfWrongData()...)
}

// rectsOfImages are rectangles within images, partly outside of them and wholly outside of them.
func rectsOfImages() []impl.Rect {
	list := []impl.Rect{
		rect(0, 0, 16, 16), rect(0, 0, 16, 1), rect(0, 0, 1, 16), rect(1, 1, 15, 15), rect(15, 15, 1, 1), rect(15, 0, 1, 1), rect(0, 15, 1, 1),
		rect(0, 0, 17, 16), rect(0, 0, 16, 17), rect(-1, 0, 17, 16), rect(0, -1, 16, 17), rect(1, 0, 16, 16), rect(0, 1, 16, 16),
		rect(16, 0, 1, 1), rect(0, 16, 1, 1), rect(16, 16, 1, 1), rect(-4, 3, 4, 2), rect(3, -4, 2, 4), rect(20, 20, 9, 9),
		rect(-500, -500, 1000, 1000), rect(-999, -999, 1000, 1000), rect(-1000, -1000, 1000, 1000), rect(1000, 1000, 1000, 1000),
		rect(2, 0, 1000, 1), rect(0, 2, 1, 1000), rect(4, 5, 6, 7), rect(6, 10, 1, 1), rect(1000, 0, 0, 0), rect(5, 5, 0, 3), rect(5, 5, 3, 0),
	}
	for _, r := range smallRects() {
		list = append(list, r, impl.Moved(r, 2, 1), impl.Moved(r, 14, 14))
	}
	return list
}

// contains finds by their definition whether a rectangle contains a point.
func contains(r impl.Rect, x, y int) bool {
	return r.X <= x && x < r.X+r.W && r.Y <= y && y < r.Y+r.H
}

func TestImageSizes(t *testing.T) {
	for w := -1; w <= screenSide+1; w++ {
		for h := -1; h <= screenSide+1; h++ {
			for length := max(0, w*h-1); length <= max(0, w*h)+1; length++ {
				i := image(w, h, slices.Repeat([]int{0xff000000}, length)...)
				want := w >= 1 && w <= screenSide && h >= 1 && h <= screenSide && length == w*h
				if got := impl.ImageOk(i); got != want {
					t.Errorf("an image of %d by %d with %d pixels: ImageOk is %v", w, h, length, got)
				}
			}
		}
	}
}

func TestImageOk(t *testing.T) {
	for _, size := range someSizes() {
		for _, i := range []impl.Image{unlikePixels(size[0], size[1]), invertedPixels(unlikePixels(size[0], size[1]))} {
			if !impl.ImageOk(i) {
				t.Errorf("ImageOk(%v) is false", i)
			}
		}
	}
	for _, i := range invalidImages() {
		if impl.ImageOk(i) {
			t.Errorf("ImageOk(%v) is true", i)
		}
	}
}

func TestImageOkChecksEachPixel(t *testing.T) {
	for _, size := range someSizes() {
		i := unlikePixels(size[0], size[1])
		for k, p := range i.Data {
			for _, n := range []int{-1, highestPixel + 1} {
				i.Data[k] = n
				if impl.ImageOk(i) {
					t.Errorf("ImageOk is true with %d at place %d of %v", n, k, size)
				}
			}
			i.Data[k] = p
		}
	}
}

func TestNewImage(t *testing.T) {
	for w := -1; w <= screenSide+1; w++ {
		for h := -1; h <= screenSide+1; h++ {
			for _, p := range []int{0, 5, 0x80ff00ff, highestPixel, -1, highestPixel + 1} {
				var want impl.Image
				if w >= 1 && w <= screenSide && h >= 1 && h <= screenSide && p >= 0 && p <= highestPixel {
					want = drawnImage(w, h, func(x, y int) int { return p })
				}
				if got := impl.NewImage(w, h, p); !equalImages(got, want) {
					t.Errorf("NewImage(%d, %d, %d) = %v; want %v", w, h, p, got, want)
				}
			}
		}
	}
}

func TestNewImageRejectsInvalidArguments(t *testing.T) {
	for _, far := range []int{math.MinInt, -1 << 32, -16, 17, 256, 1 << 32, 1<<32 + 1, 1 << 62, math.MaxInt} {
		for _, other := range []int{far, 0, 1, 16, 1 << 32} {
			if a, b := impl.NewImage(far, other, 7), impl.NewImage(other, far, 7); !equalImages(a, impl.Image{}) || !equalImages(b, impl.Image{}) {
				t.Errorf("images of the sides %d and %d are %v and %v", far, other, a, b)
			}
		}
	}
	for _, n := range notPixels() {
		for _, size := range someSizes() {
			if got := impl.NewImage(size[0], size[1], n); !equalImages(got, impl.Image{}) {
				t.Errorf("NewImage(%v, %d) = %v", size, n, got)
			}
		}
	}
}

func TestPixelOf(t *testing.T) {
	for _, size := range someSizes() {
		i := unlikePixels(size[0], size[1])
		for y := -3; y < i.H+3; y++ {
			for x := -3; x < i.W+3; x++ {
				want := -1
				if 0 <= x && x < i.W && 0 <= y && y < i.H {
					want = i.Data[y*i.W+x]
				}
				if got := impl.PixelOf(i, x, y); got != want {
					t.Errorf("PixelOf(%v, %d, %d) = %d; want %d", i, x, y, got, want)
				}
			}
		}
	}
}

// TestPixelOfFarPlaces also tries places whose place in Data, with its overflow, is one of Data.
func TestPixelOfFarPlaces(t *testing.T) {
	i := unlikePixels(16, 16)
	places := [][2]int{{1 << 32, -1 << 28}, {0, 1 << 60}, {5, -1 << 60}, {-16, 1}, {16, 0}, {255, 0}, {-15, 1}, {31, -1}}
	for _, far := range []int{math.MinInt, -1000, -1, 16, 1000, math.MaxInt} {
		places = append(places, [2]int{far, 0}, [2]int{0, far}, [2]int{far, far}, [2]int{far, 15}, [2]int{15, far})
	}
	for _, place := range places {
		if got := impl.PixelOf(i, place[0], place[1]); got != -1 {
			t.Errorf("PixelOf(%d, %d) = %d", place[0], place[1], got)
		}
	}
}

func TestPixelOfInvalidImages(t *testing.T) {
	for _, i := range invalidImages() {
		for _, place := range [][2]int{{0, 0}, {1, 0}, {0, 1}, {1, 1}, {2, 1}, {15, 15}, {-1, 0}, {0, -1}, {17, 17}} {
			if got := impl.PixelOf(i, place[0], place[1]); got != -1 {
				t.Errorf("PixelOf(%v, %d, %d) = %d", i, place[0], place[1], got)
			}
		}
	}
}

func TestFillRect(t *testing.T) {
	for _, size := range someSizes() {
		i := unlikePixels(size[0], size[1])
		for _, r := range rectsOfImages() {
			for _, p := range []int{0, 0x7f123456, highestPixel} {
				want := drawnImage(i.W, i.H, func(x, y int) int {
					if contains(r, x, y) {
						return p
					}
					return i.Data[y*i.W+x]
				})
				if got := impl.FillRect(i, r, p); !equalImages(got, want) {
					t.Errorf("FillRect(%v, %v, %d) = %v; want %v", i, r, p, got, want)
				}
			}
		}
	}
}

func TestFillRectLeavesTheImage(t *testing.T) {
	whole := rect(0, 0, 16, 16)
	for _, i := range invalidImages() {
		for _, r := range []impl.Rect{whole, rect(0, 0, 1, 1), rect(0, 0, -1, 1)} {
			for _, p := range []int{9, -1} {
				if got := impl.FillRect(i, r, p); !equalImages(got, i) {
					t.Errorf("FillRect(%v, %v, %d) = %v", i, r, p, got)
				}
			}
		}
	}
	for _, size := range someSizes() {
		i := unlikePixels(size[0], size[1])
		for _, r := range invalidRects() {
			if got := impl.FillRect(i, r, 9); !equalImages(got, i) {
				t.Errorf("FillRect(%v, %v, 9) = %v", i, r, got)
			}
		}
		for _, n := range notPixels() {
			if got := impl.FillRect(i, whole, n); !equalImages(got, i) {
				t.Errorf("FillRect(%v, %v, %d) = %v", i, whole, n, got)
			}
		}
	}
}

// croppedImage finds the pixels of a rectangle by their places; none if one of them is missing.
func croppedImage(i impl.Image, r impl.Rect) (impl.Image, bool) {
	if r.W < 1 || r.H < 1 || !contains(rect(0, 0, i.W, i.H), r.X, r.Y) || !contains(rect(0, 0, i.W, i.H), r.X+r.W-1, r.Y+r.H-1) {
		return impl.Image{}, false
	}
	return drawnImage(r.W, r.H, func(x, y int) int { return i.Data[(r.Y+y)*i.W+r.X+x] }), true
}

func TestCropImage(t *testing.T) {
	for _, size := range someSizes() {
		i := unlikePixels(size[0], size[1])
		rects := append(rectsOfImages(), rect(0, 0, i.W, i.H), rect(0, 0, i.W+1, i.H), rect(0, 0, i.W, i.H+1), rect(i.W, i.H, 0, 0),
			rect(1, 0, i.W-1, i.H), rect(0, 1, i.W, i.H-1), rect(1, 0, i.W, i.H), rect(0, 1, i.W, i.H), rect(0, 0, i.H, i.W))
		for _, r := range rects {
			want, wantOk := croppedImage(i, r)
			if got, ok := impl.CropImage(i, r); ok != wantOk || !equalImages(got, want) {
				t.Errorf("CropImage(%v, %v) = %v, %v; want %v, %v", i, r, got, ok, want, wantOk)
			}
		}
	}
}

func TestCropImageRejectsInvalidArguments(t *testing.T) {
	for _, i := range invalidImages() {
		for _, r := range []impl.Rect{rect(0, 0, 1, 1), rect(0, 0, i.W, i.H), {}, rect(0, 0, 2, 2)} {
			if got, ok := impl.CropImage(i, r); ok || !equalImages(got, impl.Image{}) {
				t.Errorf("CropImage(%v, %v) = %v, %v", i, r, got, ok)
			}
		}
	}
	for _, r := range invalidRects() {
		for _, size := range someSizes() {
			if got, ok := impl.CropImage(unlikePixels(size[0], size[1]), r); ok || !equalImages(got, impl.Image{}) {
				t.Errorf("CropImage of %v at %v is %v, %v", size, r, got, ok)
			}
		}
	}
}

// drawingsOfImages are sets of points to be copied: small ones at corners of images, and large ones.
func drawingsOfImages() []screenRows {
	list := append(largeDrawings(), smallDrawings(0, 0, 2, 2)...)
	list = append(list, smallDrawings(14, 14, 2, 2)...)
	return append(list, smallDrawings(1, 1, 3, 2)...)
}

func TestCopyRegion(t *testing.T) {
	for _, drawing := range drawingsOfImages() {
		r := region(drawing.form()...)
		for _, size := range someSizes() {
			to := unlikePixels(size[0], size[1])
			for _, other := range someSizes() {
				from := invertedPixels(unlikePixels(other[0], other[1]))
				want := drawnImage(to.W, to.H, func(x, y int) int {
					if drawing.has(x, y) && x < from.W && y < from.H {
						return from.Data[y*from.W+x]
					}
					return to.Data[y*to.W+x]
				})
				if got := impl.CopyRegion(to, from, r); !equalImages(got, want) {
					t.Fatalf("CopyRegion(%v, %v, %v) = %v; want %v", to, from, r, got, want)
				}
			}
		}
	}
}

func TestCopyRegionLeavesTheImage(t *testing.T) {
	whole := region(rect(0, 0, 16, 16))
	to, from := unlikePixels(3, 2), invertedPixels(unlikePixels(3, 2))
	for _, i := range invalidImages() {
		for _, other := range append(invalidImages()[:20], from, unlikePixels(16, 16)) {
			if got := impl.CopyRegion(i, other, whole); !equalImages(got, i) {
				t.Errorf("CopyRegion(%v, %v) = %v", i, other, got)
			}
			if got := impl.CopyRegion(other, i, whole); !equalImages(got, other) {
				t.Errorf("CopyRegion(%v, %v) = %v", other, i, got)
			}
		}
	}
	for _, r := range invalidRegions() {
		if got := impl.CopyRegion(to, from, r); !equalImages(got, to) {
			t.Errorf("CopyRegion(%v, %v, %v) = %v", to, from, r, got)
		}
		if got := impl.CopyRegion(image(1, 1, -1), from, r); !equalImages(got, image(1, 1, -1)) {
			t.Errorf("CopyRegion of an invalid image and %v is %v", r, got)
		}
	}
}

// checkDifference checks the region in which two images differ, and that copying it, from either
// of them into the other one, makes them equal.
func checkDifference(t *testing.T, a, b impl.Image) {
	t.Helper()
	want := drawnPoints(func(x, y int) bool { return x < a.W && y < a.H && a.Data[y*a.W+x] != b.Data[y*a.W+x] }).form()
	for _, pair := range [][2]impl.Image{{a, b}, {b, a}} {
		difference := impl.DifferenceOf(pair[0], pair[1])
		if !slices.Equal(difference.Rects, want) {
			t.Errorf("DifferenceOf(%v, %v) = %v; want %v", pair[0], pair[1], difference, want)
		}
		copied := impl.CopyRegion(pair[0], pair[1], difference)
		if !equalImages(copied, pair[1]) || !impl.SameImage(copied, pair[1]) {
			t.Errorf("copying %v into %v gives %v; want %v", difference, pair[0], copied, pair[1])
		}
		if left := impl.DifferenceOf(copied, pair[1]); len(left.Rects) > 0 {
			t.Errorf("copying %v into %v leaves the difference %v", difference, pair[0], left)
		}
		if impl.SameImage(pair[0], pair[1]) != (len(want) == 0) {
			t.Errorf("SameImage(%v, %v) is %v", pair[0], pair[1], len(want) > 0)
		}
	}
}

func TestCopyingTheDifferenceMakesEqual(t *testing.T) {
	for _, drawing := range drawingsOfImages() {
		for _, size := range someSizes() {
			a := unlikePixels(size[0], size[1])
			inverted := invertedPixels(a)
			b := drawnImage(a.W, a.H, func(x, y int) int {
				if drawing.has(x, y) {
					return inverted.Data[y*a.W+x]
				}
				return a.Data[y*a.W+x]
			})
			checkDifference(t, a, b)
		}
	}
}

// TestImagesDifferInOneBit changes a single bit of one pixel, of each channel in turn.
func TestImagesDifferInOneBit(t *testing.T) {
	for _, size := range someSizes() {
		a := unlikePixels(size[0], size[1])
		for k := range a.Data {
			b := image(a.W, a.H, slices.Clone(a.Data)...)
			b.Data[k] ^= 1 << (k * 5 % 32)
			checkDifference(t, a, b)
		}
	}
	for bit := range 32 {
		checkDifference(t, image(2, 1, 0, 1<<bit), image(2, 1, 0, 0))
	}
}

func TestImagesOfDifferentSizesHaveNoDifference(t *testing.T) {
	for _, size := range someSizes() {
		for _, other := range someSizes() {
			a, b := impl.NewImage(size[0], size[1], 3), impl.NewImage(other[0], other[1], 4)
			if got := impl.DifferenceOf(a, b); size != other && len(got.Rects) > 0 {
				t.Errorf("images of %v and %v differ in %v", size, other, got)
			}
			if same := impl.SameImage(a, impl.NewImage(other[0], other[1], 3)); same != (size == other) {
				t.Errorf("SameImage of images of %v and %v is %v", size, other, same)
			}
		}
	}
	a, b := image(2, 3, 1, 2, 3, 4, 5, 6), image(3, 2, 1, 2, 3, 4, 5, 6)
	if impl.SameImage(a, b) || len(impl.DifferenceOf(a, b).Rects) > 0 {
		t.Errorf("images of the same pixels in other rows: %v, %v", impl.SameImage(a, b), impl.DifferenceOf(a, b))
	}
}

func TestDifferenceOfInvalidImages(t *testing.T) {
	for _, i := range invalidImages() {
		for _, other := range []impl.Image{{}, i, impl.NewImage(i.W, i.H, 8), image(3, 2, 9, 9, 9, 9, 9, 9), image(1, 1, 9), unlikePixels(16, 16), image(3, 2, -1, -1, -1, -1, -1, -1)} {
			if a, b := impl.DifferenceOf(i, other), impl.DifferenceOf(other, i); len(a.Rects)+len(b.Rects) > 0 {
				t.Errorf("%v and %v differ in %v and %v", i, other, a, b)
			}
		}
	}
}

// TestSameImageComparesAllFields also compares images that are not valid, which are equal if
// their fields are.
func TestSameImageComparesAllFields(t *testing.T) {
	list := append(invalidImages(), unlikePixels(3, 2), unlikePixels(2, 3), invertedPixels(unlikePixels(3, 2)), unlikePixels(16, 16), image(3, 2, 0, 1, 2, 3, 4, 5))
	for _, a := range list {
		for _, b := range list {
			if got := impl.SameImage(a, b); got != equalImages(a, b) {
				t.Errorf("SameImage(%v, %v) = %v", a, b, got)
			}
		}
		if copied := image(a.W, a.H, slices.Clone(a.Data)...); !impl.SameImage(a, copied) {
			t.Errorf("%v is not the same as its copy", a)
		}
	}
	if !impl.SameImage(impl.Image{}, impl.Image{Data: []int{}}) || !impl.SameImage(impl.Image{Data: []int{}}, impl.Image{}) {
		t.Error("a nil slice is not the same as an empty one")
	}
}

// TestImagesShareNoMemory calls each function with images in front of spare capacity that holds
// other pixels, and changes the results, those that are an argument unchanged among them.
func TestImagesShareNoMemory(t *testing.T) {
	memory := []int{1, 2, 3, 4, 5, 6, 7, 8, 9, 10, 11, 12, 13, 14, 15, 16, 17, 18}
	rects := []impl.Rect{rect(0, 0, 2, 1), rect(1, 1, 2, 1), rect(5, 5, 1, 1)}
	before, rectsBefore := slices.Clone(memory), slices.Clone(rects)
	a := impl.Image{W: 3, H: 2, Data: memory[:6]}
	b := impl.Image{W: 3, H: 2, Data: memory[8:14]}
	invalid := impl.Image{W: 4, H: 4, Data: memory[2:9]}
	r := impl.Region{Rects: rects[:2]}
	crop, _ := impl.CropImage(a, rect(0, 0, 3, 2))
	row, _ := impl.CropImage(b, rect(0, 1, 3, 1))
	images := []impl.Image{
		crop, row,
		impl.FillRect(a, rect(1, 0, 9, 1), 99), impl.FillRect(a, rect(0, 0, 0, 0), 99), impl.FillRect(a, rect(9, 9, 2, 2), 99),
		impl.FillRect(a, rect(0, 0, -1, 1), 99), impl.FillRect(a, rect(0, 0, 3, 2), -1), impl.FillRect(invalid, rect(0, 0, 3, 2), 99),
		impl.CopyRegion(a, b, r), impl.CopyRegion(a, a, r), impl.CopyRegion(a, b, impl.Region{}), impl.CopyRegion(a, b, region(rect(0, 0, 16, 16))),
		impl.CopyRegion(a, invalid, r), impl.CopyRegion(invalid, a, r), impl.CopyRegion(a, b, region(rect(0, 0, 0, 0))),
	}
	difference := impl.DifferenceOf(a, b)
	impl.ImageOk(a)
	impl.PixelOf(a, 1, 1)
	impl.SameImage(a, b)
	for _, i := range images {
		for k := range i.Data {
			i.Data[k] = -5
		}
		_ = append(i.Data, -6)
	}
	for k := range difference.Rects {
		difference.Rects[k] = rect(-1, -1, -1, -1)
	}
	if !slices.Equal(memory, before) || !slices.Equal(rects, rectsBefore) {
		t.Errorf("the arguments became %v and %v", memory, rects)
	}
}

func TestNewImagesShareNoMemory(t *testing.T) {
	first, second := impl.NewImage(2, 2, 7), impl.NewImage(2, 2, 7)
	first.Data[0] = 8
	if !equalImages(second, image(2, 2, 7, 7, 7, 7)) || !equalImages(impl.NewImage(2, 2, 7), second) {
		t.Errorf("after a change of another image: %v", second)
	}
}
