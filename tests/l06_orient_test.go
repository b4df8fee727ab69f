package tests

import (
	"math"
	"slices"
	"strings"
	"testing"

	"loop.example/g03313/impl"
)

// orientationCount is written out, so that a wrong limit of the program is found.
const orientationCount = 8

// notOrientations are numbers just outside of the range of an orientation and far from it.
func notOrientations() []int {
	return []int{-1, 8, -2, -3, -4, -5, -7, -8, 9, 11, 12, 15, 16, 255, 256, -256, 1 << 32, 1<<32 + 1, -1 << 32, 1<<62 + 3, math.MaxInt, math.MinInt, math.MinInt + 1}
}

// notSides are numbers that are no side of a picture, just outside of the range and far from it.
func notSides() []int {
	return []int{0, 17, -1, -2, -16, 18, 32, 1000, 1001, -1000, 1 << 32, 1<<32 + 3, -1 << 32, math.MaxInt, math.MinInt, math.MinInt + 5}
}

// orientedPlace finds OrientPoint for each orientation by itself, without turning several times.
func orientedPlace(w, h, o, x, y int) (int, int) {
	right, below := w-1-x, h-1-y
	places := [orientationCount][2]int{{x, y}, {below, x}, {right, below}, {y, right}, {right, y}, {below, right}, {x, below}, {y, x}}
	return places[o][0], places[o][1]
}

// orientedSides finds OrientSize: odd numbers of turns exchange the sides.
func orientedSides(w, h, o int) (int, int) {
	if slices.Contains([]int{1, 3, 5, 7}, o) {
		return h, w
	}
	return w, h
}

// orientedImage puts each pixel of an image to its place in an orientation.
func orientedImage(i impl.Image, o int) impl.Image {
	w, h := orientedSides(i.W, i.H, o)
	turned := impl.Image{W: w, H: h, Data: make([]int, w*h)}
	for y := range i.H {
		for x := range i.W {
			newX, newY := orientedPlace(i.W, i.H, o, x, y)
			turned.Data[newY*w+newX] = i.Data[y*i.W+x]
		}
	}
	return turned
}

// writtenImage makes an image of rows of letters, each of which is a pixel.
func writtenImage(rows string) impl.Image {
	lines := strings.Split(rows, "/")
	return drawnImage(len(lines[0]), len(lines), func(x, y int) int { return int(lines[y][x]) })
}

// forAllSides calls a function with all sizes of pictures.
func forAllSides(check func(w, h int)) {
	for w := 1; w <= screenSide; w++ {
		for h := 1; h <= screenSide; h++ {
			check(w, h)
		}
	}
}

func TestOrientedLetters(t *testing.T) {
	cases := []struct {
		rows string
		want [orientationCount]string
	}{
		{"abc/def", [orientationCount]string{"abc/def", "da/eb/fc", "fed/cba", "cf/be/ad", "cba/fed", "fc/eb/da", "def/abc", "ad/be/cf"}},
		{"abc/def/ghi", [orientationCount]string{"abc/def/ghi", "gda/heb/ifc", "ihg/fed/cba", "cfi/beh/adg", "cba/fed/ihg", "ifc/heb/gda", "ghi/def/abc", "adg/beh/cfi"}},
		{"ab", [orientationCount]string{"ab", "a/b", "ba", "b/a", "ba", "b/a", "ab", "a/b"}},
		{"a/b", [orientationCount]string{"a/b", "ba", "b/a", "ab", "a/b", "ba", "b/a", "ab"}},
		{"a", [orientationCount]string{"a", "a", "a", "a", "a", "a", "a", "a"}},
	}
	for _, c := range cases {
		for o, want := range c.want {
			if got := impl.Oriented(writtenImage(c.rows), o); !equalImages(got, writtenImage(want)) {
				t.Errorf("%s in orientation %d is %v; want %s", c.rows, o, got, want)
			}
		}
	}
}

func TestOrientPoint(t *testing.T) {
	forAllSides(func(w, h int) {
		for o := range orientationCount {
			for y := -2; y < h+2; y++ {
				for x := -2; x < w+2; x++ {
					wantX, wantY := -1, -1
					if 0 <= x && x < w && 0 <= y && y < h {
						wantX, wantY = orientedPlace(w, h, o, x, y)
					}
					if gotX, gotY := impl.OrientPoint(w, h, o, x, y); gotX != wantX || gotY != wantY {
						t.Errorf("OrientPoint(%d, %d, %d, %d, %d) = %d, %d; want %d, %d", w, h, o, x, y, gotX, gotY, wantX, wantY)
					}
				}
			}
		}
	})
}

// TestOrientPointUsesEachPlaceOnce checks that no two pixels come to the same place, and that all
// places are within the size of the picture in this orientation.
func TestOrientPointUsesEachPlaceOnce(t *testing.T) {
	forAllSides(func(w, h int) {
		for o := range orientationCount {
			newW, newH := impl.OrientSize(w, h, o)
			used := map[[2]int]bool{}
			for k := range w * h {
				x, y := impl.OrientPoint(w, h, o, k%w, k/w)
				if used[[2]int{x, y}] || x < 0 || x >= newW || y < 0 || y >= newH {
					t.Errorf("OrientPoint(%d, %d, %d, %d, %d) = %d, %d, which is used or outside", w, h, o, k%w, k/w, x, y)
				}
				used[[2]int{x, y}] = true
			}
		}
	})
}

func TestOrientPointOfMissingPixels(t *testing.T) {
	far := []int{math.MinInt, math.MinInt + 1, -1 << 32, -1000, -16, 16, 17, 1000, 1 << 32, math.MaxInt}
	for o := range orientationCount {
		for _, n := range far {
			for _, other := range append(far, 0, 3) {
				ax, ay := impl.OrientPoint(16, 5, o, n, other)
				bx, by := impl.OrientPoint(16, 5, o, other, n)
				if ax != -1 || ay != -1 || bx != -1 || by != -1 {
					t.Errorf("in orientation %d pixels %d and %d come to (%d, %d) and (%d, %d)", o, n, other, ax, ay, bx, by)
				}
			}
		}
	}
}

func TestOrientSize(t *testing.T) {
	forAllSides(func(w, h int) {
		for o := range orientationCount {
			wantW, wantH := orientedSides(w, h, o)
			if gotW, gotH := impl.OrientSize(w, h, o); gotW != wantW || gotH != wantH {
				t.Errorf("OrientSize(%d, %d, %d) = %d, %d; want %d, %d", w, h, o, gotW, gotH, wantW, wantH)
			}
		}
	})
}

// checkNoOrientation checks that OrientPoint and OrientSize reject their arguments.
func checkNoOrientation(t *testing.T, w, h, o int) {
	t.Helper()
	for _, place := range [][2]int{{0, 0}, {1, 0}, {0, 1}, {-1, -1}, {w - 1, h - 1}, {w, h}, {16, 16}} {
		if x, y := impl.OrientPoint(w, h, o, place[0], place[1]); x != -1 || y != -1 {
			t.Errorf("OrientPoint(%d, %d, %d, %d, %d) = %d, %d", w, h, o, place[0], place[1], x, y)
		}
	}
	if newW, newH := impl.OrientSize(w, h, o); newW != 0 || newH != 0 {
		t.Errorf("OrientSize(%d, %d, %d) = %d, %d", w, h, o, newW, newH)
	}
}

func TestOrientRejectsWrongSides(t *testing.T) {
	for _, n := range notSides() {
		for _, o := range []int{0, 1, 2, 3, 4, 5, 6, 7, -1, 8} {
			for _, other := range []int{1, 2, 16, n, 0, 17, -1} {
				checkNoOrientation(t, n, other, o)
				checkNoOrientation(t, other, n, o)
			}
		}
	}
}

func TestOrientRejectsWhatIsNoOrientation(t *testing.T) {
	for _, n := range notOrientations() {
		for _, size := range someSizes() {
			checkNoOrientation(t, size[0], size[1], n)
		}
	}
}

func TestOriented(t *testing.T) {
	forAllSides(func(w, h int) {
		for _, i := range []impl.Image{unlikePixels(w, h), invertedPixels(unlikePixels(w, h)), impl.NewImage(w, h, 0x80ff00ff)} {
			for o := range orientationCount {
				if got, want := impl.Oriented(i, o), orientedImage(i, o); !equalImages(got, want) || !impl.ImageOk(got) {
					t.Errorf("Oriented(%v, %d) = %v; want %v", i, o, got, want)
				}
			}
		}
	})
}

func TestOrientedRejectsInvalidArguments(t *testing.T) {
	for _, i := range invalidImages() {
		for _, o := range []int{0, 1, 2, 3, 4, 5, 6, 7, -1, 8} {
			if got := impl.Oriented(i, o); !equalImages(got, impl.Image{}) {
				t.Errorf("Oriented(%v, %d) = %v", i, o, got)
			}
		}
	}
	for _, n := range notOrientations() {
		for _, size := range someSizes() {
			if got := impl.Oriented(unlikePixels(size[0], size[1]), n); !equalImages(got, impl.Image{}) {
				t.Errorf("Oriented of %v in %d is %v", size, n, got)
			}
		}
	}
}

// TestThenOrient compares with a table of all pairs; another test tries these on pictures.
func TestThenOrient(t *testing.T) {
	table := [orientationCount][orientationCount]int{
		{0, 1, 2, 3, 4, 5, 6, 7},
		{1, 2, 3, 0, 7, 4, 5, 6},
		{2, 3, 0, 1, 6, 7, 4, 5},
		{3, 0, 1, 2, 5, 6, 7, 4},
		{4, 5, 6, 7, 0, 1, 2, 3},
		{5, 6, 7, 4, 3, 0, 1, 2},
		{6, 7, 4, 5, 2, 3, 0, 1},
		{7, 4, 5, 6, 1, 2, 3, 0},
	}
	for a, row := range table {
		for b, want := range row {
			if got := impl.ThenOrient(a, b); got != want {
				t.Errorf("ThenOrient(%d, %d) = %d; want %d", a, b, got, want)
			}
		}
	}
}

func TestUndoOrient(t *testing.T) {
	for o, want := range [orientationCount]int{0, 3, 2, 1, 4, 5, 6, 7} {
		if got := impl.UndoOrient(o); got != want {
			t.Errorf("UndoOrient(%d) = %d; want %d", o, got, want)
		}
	}
}

func TestThenAndUndoRejectWhatIsNoOrientation(t *testing.T) {
	for _, n := range notOrientations() {
		if got := impl.UndoOrient(n); got != -1 {
			t.Errorf("UndoOrient(%d) = %d", n, got)
		}
		for _, other := range append(notOrientations(), 0, 1, 2, 3, 4, 5, 6, 7) {
			if a, b := impl.ThenOrient(n, other), impl.ThenOrient(other, n); a != -1 || b != -1 {
				t.Errorf("ThenOrient of %d and %d is %d, and %d in the other order", n, other, a, b)
			}
		}
	}
}

func TestOrientationsAreAGroup(t *testing.T) {
	for a := range orientationCount {
		if left, right := impl.ThenOrient(0, a), impl.ThenOrient(a, 0); left != a || right != a {
			t.Errorf("orientation %d with 0 before and after it is %d and %d", a, left, right)
		}
		undo := impl.UndoOrient(a)
		if left, right := impl.ThenOrient(undo, a), impl.ThenOrient(a, undo); left != 0 || right != 0 {
			t.Errorf("orientation %d with %d before and after it is %d and %d", a, undo, left, right)
		}
		for b := range orientationCount {
			ab := impl.ThenOrient(a, b)
			if ab < 0 || ab >= orientationCount {
				t.Fatalf("ThenOrient(%d, %d) = %d", a, b, ab)
			}
			if got, want := impl.UndoOrient(ab), impl.ThenOrient(impl.UndoOrient(b), undo); got != want {
				t.Errorf("%d then %d is undone by %d; want %d", a, b, got, want)
			}
			for c := range orientationCount {
				if left, right := impl.ThenOrient(ab, c), impl.ThenOrient(a, impl.ThenOrient(b, c)); left != right {
					t.Errorf("%d, %d and %d together are %d and %d", a, b, c, left, right)
				}
			}
		}
	}
}

// checkAction checks that a picture in one orientation and then in another one is the picture in
// the orientation of both, and that an orientation can be undone.
func checkAction(t *testing.T, i impl.Image) {
	t.Helper()
	if got := impl.Oriented(i, 0); !equalImages(got, i) {
		t.Errorf("Oriented(%v, 0) = %v", i, got)
	}
	for a := range orientationCount {
		first := impl.Oriented(i, a)
		if got := impl.Oriented(first, impl.UndoOrient(a)); !equalImages(got, i) {
			t.Errorf("Oriented(%v, %d), undone, is %v", i, a, got)
		}
		for b := range orientationCount {
			if got, want := impl.Oriented(first, b), impl.Oriented(i, impl.ThenOrient(a, b)); !equalImages(got, want) {
				t.Errorf("%v in orientations %d and %d is %v; want %v", i, a, b, got, want)
			}
		}
	}
}

func TestOrientationsActOnPictures(t *testing.T) {
	forAllSides(func(w, h int) { checkAction(t, unlikePixels(w, h)) })
}

func TestOrientationsActOnPointsAndSizes(t *testing.T) {
	for _, size := range someSizes() {
		for k := range orientationCount * orientationCount {
			a, b := k/orientationCount, k%orientationCount
			w, h := impl.OrientSize(size[0], size[1], a)
			both := impl.ThenOrient(a, b)
			gotW, gotH := impl.OrientSize(w, h, b)
			if wantW, wantH := impl.OrientSize(size[0], size[1], both); gotW != wantW || gotH != wantH {
				t.Errorf("%v in orientations %d and %d is %d by %d; want %d by %d", size, a, b, gotW, gotH, wantW, wantH)
			}
			for p := range size[0] * size[1] {
				x, y := impl.OrientPoint(size[0], size[1], a, p%size[0], p/size[0])
				gotX, gotY := impl.OrientPoint(w, h, b, x, y)
				if wantX, wantY := impl.OrientPoint(size[0], size[1], both, p%size[0], p/size[0]); gotX != wantX || gotY != wantY {
					t.Errorf("pixel %d of %v in orientations %d and %d is at (%d, %d); want (%d, %d)", p, size, a, b, gotX, gotY, wantX, wantY)
				}
			}
		}
	}
}

// TestOrientedSharesNoMemory orients a picture in front of spare capacity that holds other pixels,
// and changes the results.
func TestOrientedSharesNoMemory(t *testing.T) {
	memory := []int{1, 2, 3, 4, 5, 6, 7, 8, 9, 10}
	before := slices.Clone(memory)
	i := impl.Image{W: 3, H: 2, Data: memory[1:7]}
	point := impl.Image{W: 1, H: 1, Data: memory[2:3]}
	for o := -1; o <= orientationCount; o++ {
		for _, turned := range []impl.Image{impl.Oriented(i, o), impl.Oriented(point, o)} {
			for k := range turned.Data {
				turned.Data[k] = -5
			}
			_ = append(turned.Data, -6)
		}
		if again := impl.Oriented(i, max(0, min(o, 7))); slices.Contains(again.Data, -5) {
			t.Errorf("after a change of another result: %v", again)
		}
	}
	if !slices.Equal(memory, before) {
		t.Errorf("the argument became %v", memory)
	}
}
