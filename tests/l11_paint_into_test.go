package tests

import (
	"slices"
	"testing"

	"loop.example/g03313/impl"
)

func TestPaintIntoLetters(t *testing.T) {
	s := letterScene(newSurface(1, 1, 1, opaqueLetters("abc/def")))
	plain := opaqueLetters("-----/-----/-----/-----")
	cases := []struct {
		name string
		i    impl.Image
		r    impl.Region
		want string
	}{
		{"nothing", plain, impl.Region{}, "-----/-----/-----/-----"},
		{"all", plain, region(rect(0, 0, 5, 4)), "...../.abc./.def./....."},
		{"more than all", plain, region(rect(0, 0, 16, 16)), "...../.abc./.def./....."},
		{"a part", plain, region(rect(0, 1, 3, 1)), "-----/.ab--/-----/-----"},
		{"a point", plain, region(rect(3, 2, 1, 1)), "-----/-----/---f-/-----"},
		{"beyond two sides", plain, region(rect(3, 2, 9, 9)), "-----/-----/---f./---.."},
		{"outside", plain, region(rect(5, 0, 1, 4)), "-----/-----/-----/-----"},
		{"several parts", plain, region(rect(0, 0, 1, 2), rect(2, 0, 1, 2), rect(1, 3, 3, 1)), ".-.--/.-b--/-----/-...-"},
		{"into a smaller image", opaqueLetters("--/--"), region(rect(0, 0, 5, 4)), "../.a"},
		{"into a larger image", opaqueLetters("------/------/------/------/------"), region(rect(0, 0, 16, 16)), ".....-/.abc.-/.def.-/.....-/------"},
		{"into a wider and lower image", opaqueLetters("-------/-------"), region(rect(2, 0, 14, 16)), "--...--/--bc.--"},
	}
	for _, c := range cases {
		if got := impl.PaintInto(c.i, s, c.r); !equalImages(got, opaqueLetters(c.want)) {
			t.Errorf("%s: PaintInto is %v; want %s", c.name, got, c.want)
		}
	}
}

// checkPaintInto checks that the pixels of a region, and no others, are those of the scene.
func checkPaintInto(t *testing.T, i impl.Image, s impl.Scene, painted impl.Image, drawing screenRows) {
	t.Helper()
	r := region(drawing.form()...)
	want := drawnImage(i.W, i.H, func(x, y int) int {
		if drawing.has(x, y) && x < s.W && y < s.H {
			return painted.Data[y*s.W+x]
		}
		return i.Data[y*i.W+x]
	})
	if got := impl.PaintInto(i, s, r); !equalImages(got, want) {
		t.Errorf("PaintInto(%v, %v, %v) = %v; want %v", i, s, r, got, want)
	}
}

// TestPaintIntoImagesOfAnySize paints into images of the size of the screen and of other sizes.
func TestPaintIntoImagesOfAnySize(t *testing.T) {
	drawings := drawingsOfImages()
	for n, s := range validScenes() {
		painted := paintedImage(s)
		sizes := append(someSizes(), [2]int{s.W, s.H}, [2]int{s.H, s.W})
		for k, drawing := range drawings[n%4:] {
			if k%4 == 0 {
				size := sizes[(n+k/4)%len(sizes)]
				checkPaintInto(t, unlikePixels(size[0], size[1]), s, painted, drawing)
				checkPaintInto(t, unlikePixels(s.W, s.H), s, painted, drawing)
			}
		}
	}
}

// TestPaintIntoTheWholeScreenIsPaint paints into an image that shows something else, and again
// into the result.
func TestPaintIntoTheWholeScreenIsPaint(t *testing.T) {
	for _, s := range validScenes() {
		whole, want := region(rect(0, 0, s.W, s.H)), paintedImage(s)
		got := impl.PaintInto(unlikePixels(s.W, s.H), s, whole)
		if !equalImages(got, want) {
			t.Errorf("PaintInto of %v is %v; want %v", s, got, want)
		}
		if again := impl.PaintInto(got, s, whole); !equalImages(again, want) {
			t.Errorf("PaintInto of %v, done twice, is %v; want %v", s, again, want)
		}
	}
}

func TestPaintIntoLeavesInvalidImages(t *testing.T) {
	for n, i := range invalidImages() {
		s := validScenes()[n%20]
		for _, r := range []impl.Region{region(rect(0, 0, 16, 16)), region(rect(0, 0, 1, 1)), {}, region(rect(0, 0, 0, 1))} {
			if got := impl.PaintInto(i, s, r); !equalImages(got, i) {
				t.Errorf("PaintInto(%v, %v, %v) = %v", i, s, r, got)
			}
		}
	}
}

func TestPaintIntoLeavesImagesForInvalidRegions(t *testing.T) {
	i := unlikePixels(5, 4)
	for _, s := range []impl.Scene{crowdedScene(0), crowdedScene(4), fullScenes()[7]} {
		for _, r := range invalidRegions() {
			if got := impl.PaintInto(i, s, r); !equalImages(got, i) {
				t.Errorf("PaintInto(%v, %v, %v) = %v", i, s, r, got)
			}
		}
	}
}

// TestPaintIntoSharesNoMemory paints, or does not paint, into an image in front of spare capacity
// that holds other pixels, and changes the results.
func TestPaintIntoSharesNoMemory(t *testing.T) {
	memory := []int{1, 2, 3, 4, 5, 6, 7, 8, 9, 10}
	rects := []impl.Rect{rect(9, 9, 9, 9), rect(0, 0, 2, 1), rect(8, 8, 8, 8)}
	s := impl.Scene{W: 3, H: 2, Back: 0xff102030, Surfaces: []impl.Surface{newSurface(1, 1, 0, impl.Image{W: 2, H: 2, Data: memory[3:7]})}}
	wrong := changedScene(s, func(x *impl.Scene) { x.Back = 0 })
	memoryBefore, rectsBefore, before := slices.Clone(memory), slices.Clone(rects), copyOfScene(s)
	for _, i := range []impl.Image{{W: 3, H: 2, Data: memory[1:7]}, {W: 1, H: 1, Data: memory[1:2]}, {W: 9, H: 2, Data: memory[1:7]}} {
		for _, painted := range []impl.Scene{s, wrong} {
			for _, r := range []impl.Region{{Rects: rects[1:2]}, {Rects: rects[:1]}, {}} {
				want := slices.Clone(impl.PaintInto(i, painted, r).Data)
				got := impl.PaintInto(i, painted, r)
				for k := range got.Data {
					got.Data[k] = -5
				}
				_ = append(got.Data, -6)
				if !slices.Equal(memory, memoryBefore) || !slices.Equal(rects, rectsBefore) || !equalScenes(s, before) {
					t.Fatalf("the arguments became %v, %v and %v", memory, rects, s)
				}
				if again := impl.PaintInto(i, painted, r); !slices.Equal(again.Data, want) {
					t.Errorf("a change of a result is seen in %v", again)
				}
			}
		}
	}
}

// coloredPicture finds ColoredScene of a valid scene and a valid map by its definition.
func coloredPicture(s impl.Scene, m impl.ColorMap) []int {
	painted := paintedImage(s)
	var picture []int
	for k, p := range painted.Data {
		picture = append(picture, searchedDot(coloredPixel(m, p), k%s.W, k/s.W))
	}
	return picture
}

func TestColoredSceneOfOnePixel(t *testing.T) {
	swapped := color([]int{0, 256, 0, 0, 0, 256, 256, 0, 0}, plainCurve())
	inverted := plainCurve()
	slices.Reverse(inverted)
	cases := []struct {
		name string
		m    impl.ColorMap
		p    int
		want int
	}{
		{"white", impl.IdentityColor(), 0xffffffff, highestDot},
		{"black", impl.IdentityColor(), 0xff000000, 0},
		{"red", impl.IdentityColor(), 0xffff0000, 258048},
		{"clear red over black", impl.IdentityColor(), 0x00ff0000, 0},
		{"red taken from green", swapped, 0xff00ff00, 258048},
		{"red given to blue", swapped, 0xffff0000, 63},
		{"white inverted", color(plainMatrix(), inverted), 0xffffffff, 0},
		{"black inverted", color(plainMatrix(), inverted), 0xff000000, highestDot},
		{"half red", impl.IdentityColor(), 0x80ff0000, 31 * 4096},
	}
	for _, c := range cases {
		s := impl.Scene{W: 1, H: 1, Back: 0xff000000, Surfaces: []impl.Surface{newSurface(3, 0, 0, image(1, 1, c.p))}}
		if got := impl.ColoredScene(s, c.m); !slices.Equal(got, []int{c.want}) {
			t.Errorf("%s: ColoredScene is %v; want %d", c.name, got, c.want)
		}
	}
}

// TestColoredSceneIsDithered shows a gray of 32.4 levels with more than one level.
func TestColoredSceneIsDithered(t *testing.T) {
	s := impl.Scene{W: 3, H: 2, Back: 0xff000000 + 131*0x10101}
	const dark, bright = 32 * (4096 + 64 + 1), 32*(4096+64+1) + 4096 + 64 + 1
	if got := impl.ColoredScene(s, impl.IdentityColor()); !slices.Equal(got, []int{dark, dark, dark, bright, dark, bright}) {
		t.Errorf("ColoredScene is %v", got)
	}
}

func TestColoredScene(t *testing.T) {
	colors := someColors()
	for n, s := range validScenes() {
		for k, m := range colors {
			if (n+k)%5 > 0 {
				continue
			}
			got, want := impl.ColoredScene(s, m), coloredPicture(s, m)
			if !slices.Equal(got, want) || !impl.PictureOk(got, s.W, s.H) {
				t.Errorf("ColoredScene(%v, %v) = %v; want %v", s, m, got, want)
			}
		}
	}
}

func TestColoredSceneRejectsInvalidColors(t *testing.T) {
	for n, m := range invalidColors() {
		for _, s := range []impl.Scene{crowdedScene(n % 7), fullScenes()[n%20], wrongScenes()[n%20]} {
			if got := impl.ColoredScene(s, m); got != nil {
				t.Errorf("ColoredScene(%v, %v) = %v", s, m, got)
			}
		}
	}
}

func TestColoredSceneLeavesItsColors(t *testing.T) {
	for _, m := range someColors() {
		matrix, curve := append(slices.Clone(m.Matrix), 1, 2), append(slices.Clone(m.Curve), 3, 4)
		given := impl.ColorMap{Matrix: matrix[:9], Curve: curve[:17]}
		impl.ColoredScene(crowdedScene(3), given)
		if !equalColors(given, m) || !slices.Equal(matrix[9:], []int{1, 2}) || !slices.Equal(curve[17:], []int{3, 4}) {
			t.Errorf("the colors became %v and %v", matrix, curve)
		}
	}
}
