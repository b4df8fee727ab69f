package tests

import (
	"math"
	"slices"
	"testing"

	"loop.example/g03313/impl"
)

// The numbers of the layouts and the side of a tile are written out, so that a wrong one of the
// program is found.
const (
	lines       = 0
	tiles       = 1
	runs        = 2
	layoutCount = 3
	tileSide    = 4
)

// notLayouts are numbers just outside of the range of a layout and far from it.
func notLayouts() []int {
	return []int{-1, 3, -2, -3, 4, 5, 15, 16, 256, 1 << 32, 1<<32 + 1, 1<<32 + 2, -1 << 32, math.MaxInt, math.MinInt, math.MinInt + 1}
}

// filler stands for a word that no pixel has.
var filler = [2]int{-1, -1}

// placesOfLines are the places of all pixels in the order of their words.
func placesOfLines(w, h int) [][2]int {
	var list [][2]int
	for y := range h {
		for x := range w {
			list = append(list, [2]int{x, y})
		}
	}
	return list
}

// placesOfTiles are the places of all pixels in the order of their words, with fillers between.
func placesOfTiles(w, h int) [][2]int {
	var list [][2]int
	for top := 0; top < h; top += tileSide {
		for left := 0; left < w; left += tileSide {
			for y := top; y < top+tileSide; y++ {
				for x := left; x < left+tileSide; x++ {
					if x < w && y < h {
						list = append(list, [2]int{x, y})
					} else {
						list = append(list, filler)
					}
				}
			}
		}
	}
	return list
}

// placesOfWords are those of one of the two layouts in which each pixel has a word.
func placesOfWords(w, h, layout int) [][2]int {
	if layout == lines {
		return placesOfLines(w, h)
	}
	return placesOfTiles(w, h)
}

// wordsOfPlaces finds the words of an image in one of these two layouts.
func wordsOfPlaces(i impl.Image, layout int) []int {
	var words []int
	for _, place := range placesOfWords(i.W, i.H, layout) {
		if place == filler {
			words = append(words, 0)
		} else {
			words = append(words, i.Data[place[1]*i.W+place[0]])
		}
	}
	return words
}

// wordsOfRuns counts each pixel that is equal to the one before it in its row with that one.
func wordsOfRuns(i impl.Image) []int {
	var words []int
	for k, p := range i.Data {
		if k%i.W > 0 && p == i.Data[k-1] {
			words[len(words)-2]++
		} else {
			words = append(words, 1, p)
		}
	}
	return words
}

// wordsOf finds by the definition the words of an image in any layout.
func wordsOf(i impl.Image, layout int) []int {
	if layout == runs {
		return wordsOfRuns(i)
	}
	return wordsOfPlaces(i, layout)
}

// imagesOfSize are images of one size with equal and unlike pixels, with runs that end anywhere in
// a row, with rows that end and begin with the same pixel, and with pixels that look like counts.
func imagesOfSize(w, h int) []impl.Image {
	list := []impl.Image{
		unlikePixels(w, h), invertedPixels(unlikePixels(w, h)), drawnImage(w, h, func(x, y int) int { return 0 }),
		drawnImage(w, h, func(x, y int) int { return highestPixel }), drawnImage(w, h, func(x, y int) int { return w }),
		drawnImage(w, h, func(x, y int) int { return x % 2 }), drawnImage(w, h, func(x, y int) int { return y % 2 }),
		drawnImage(w, h, func(x, y int) int { return (x + y) % 2 * highestPixel }), drawnImage(w, h, func(x, y int) int { return max(0, x-y) }),
		drawnImage(w, h, func(x, y int) int { return (y*w + x) / 5 }), drawnImage(w, h, func(x, y int) int { return x / tileSide << 8 }),
	}
	for seed := range 4 {
		list = append(list, drawnImage(w, h, func(x, y int) int { return (seed*7 + x*x*5 + y*y*3 + x*y) % 11 / 4 }))
	}
	return list
}

// fewSizes are sizes with and without whole tiles in both directions.
func fewSizes() [][2]int {
	return append(someSizes(), [][2]int{{3, 1}, {1, 4}, {4, 1}, {4, 4}, {5, 4}, {4, 5}, {8, 8}, {9, 2}, {12, 3}}...)
}

func TestLayoutNumbers(t *testing.T) {
	if impl.LayoutLines != lines || impl.LayoutTiles != tiles || impl.LayoutRuns != runs || impl.TileSide != tileSide {
		t.Error("wrong layouts", impl.LayoutLines, impl.LayoutTiles, impl.LayoutRuns, impl.TileSide)
	}
}

func TestWordCount(t *testing.T) {
	cases := []struct{ w, h, layout, want int }{
		{1, 1, lines, 1}, {5, 1, lines, 5}, {1, 5, lines, 5}, {3, 7, lines, 21}, {16, 16, lines, 256},
		{1, 1, tiles, 16}, {4, 4, tiles, 16}, {5, 1, tiles, 32}, {1, 5, tiles, 32}, {5, 5, tiles, 64}, {8, 4, tiles, 32}, {9, 4, tiles, 48},
		{13, 13, tiles, 256}, {12, 12, tiles, 144}, {12, 13, tiles, 192}, {16, 1, tiles, 64}, {16, 16, tiles, 256},
	}
	for _, c := range cases {
		if got := impl.WordCount(c.w, c.h, c.layout); got != c.want {
			t.Errorf("WordCount(%d, %d, %d) = %d; want %d", c.w, c.h, c.layout, got, c.want)
		}
	}
}

func TestWordCountOfAllSizes(t *testing.T) {
	for w := -3; w <= screenSide+4; w++ {
		for h := -3; h <= screenSide+4; h++ {
			for layout := -2; layout <= layoutCount+1; layout++ {
				want := -1
				if w >= 1 && w <= screenSide && h >= 1 && h <= screenSide && (layout == lines || layout == tiles) {
					want = len(placesOfWords(w, h, layout))
				}
				if got := impl.WordCount(w, h, layout); got != want {
					t.Errorf("WordCount(%d, %d, %d) = %d; want %d", w, h, layout, got, want)
				}
			}
		}
	}
}

func TestWordPlace(t *testing.T) {
	cases := []struct{ w, h, layout, x, y, want int }{
		{1, 1, lines, 0, 0, 0}, {5, 2, lines, 0, 0, 0}, {5, 2, lines, 4, 0, 4}, {5, 2, lines, 0, 1, 5}, {5, 2, lines, 4, 1, 9}, {16, 16, lines, 15, 15, 255},
		{1, 1, tiles, 0, 0, 0}, {4, 4, tiles, 3, 0, 3}, {4, 4, tiles, 0, 1, 4}, {4, 4, tiles, 2, 3, 14}, {3, 4, tiles, 2, 1, 6},
		{5, 1, tiles, 4, 0, 16}, {5, 2, tiles, 4, 1, 20}, {5, 5, tiles, 0, 4, 32}, {5, 5, tiles, 4, 4, 48}, {4, 5, tiles, 1, 4, 17},
		{9, 6, tiles, 8, 0, 32}, {9, 6, tiles, 0, 4, 48}, {9, 6, tiles, 7, 5, 71}, {16, 16, tiles, 15, 15, 255}, {16, 16, tiles, 15, 0, 51},
		{5, 2, lines, 5, 0, -1}, {5, 2, lines, 0, 2, -1}, {5, 2, tiles, 5, 0, -1}, {5, 2, tiles, 0, 2, -1}, {5, 2, tiles, -1, 0, -1}, {5, 2, tiles, 0, -1, -1},
		{5, 2, runs, 0, 0, -1}, {17, 2, lines, 0, 0, -1}, {2, 17, tiles, 0, 0, -1}, {0, 0, lines, 0, 0, -1},
	}
	for _, c := range cases {
		if got := impl.WordPlace(c.w, c.h, c.layout, c.x, c.y); got != c.want {
			t.Errorf("WordPlace(%d, %d, %d, %d, %d) = %d; want %d", c.w, c.h, c.layout, c.x, c.y, got, c.want)
		}
	}
}

func TestWordPlaceOfAllPixels(t *testing.T) {
	forAllSides(func(w, h int) {
		for layout := range runs {
			places := placesOfWords(w, h, layout)
			for y := -tileSide; y < h+tileSide+1; y++ {
				for x := -tileSide; x < w+tileSide+1; x++ {
					want := -1
					if contains(rect(0, 0, w, h), x, y) {
						want = slices.Index(places, [2]int{x, y})
					}
					if got := impl.WordPlace(w, h, layout, x, y); got != want {
						t.Errorf("WordPlace(%d, %d, %d, %d, %d) = %d; want %d", w, h, layout, x, y, got, want)
					}
				}
			}
		}
	})
}

func TestWordPlaceOfMissingPixels(t *testing.T) {
	reject := func(w, h, layout, x, y int) {
		if got := impl.WordPlace(w, h, layout, x, y); got != -1 {
			t.Errorf("WordPlace(%d, %d, %d, %d, %d) = %d", w, h, layout, x, y, got)
		}
	}
	for _, size := range fewSizes() {
		w, h := size[0], size[1]
		for _, far := range farNumbers() {
			for layout := range layoutCount {
				reject(w, h, layout, far, 0)
				reject(w, h, layout, 0, far)
				reject(w, h, layout, far, far)
			}
		}
		for _, place := range placesOfLines(w, h) {
			for _, layout := range append(notLayouts(), runs) {
				reject(w, h, layout, place[0], place[1])
			}
		}
	}
}

func TestWordsRejectWrongSides(t *testing.T) {
	reject := func(w, h, layout int) {
		if got := impl.WordCount(w, h, layout); got != -1 {
			t.Errorf("WordCount(%d, %d, %d) = %d", w, h, layout, got)
		}
		for _, place := range [][2]int{{0, 0}, {1, 1}, {15, 15}, {16, 16}, {-1, -1}, {w - 1, h - 1}, {0, h - 1}, {w - 1, 0}} {
			if got := impl.WordPlace(w, h, layout, place[0], place[1]); got != -1 {
				t.Errorf("WordPlace(%d, %d, %d, %v) = %d", w, h, layout, place, got)
			}
		}
	}
	for layout := range layoutCount {
		for _, wrong := range notSides() {
			for _, side := range []int{1, 4, 7, 16} {
				reject(wrong, side, layout)
				reject(side, wrong, layout)
			}
			reject(wrong, wrong, layout)
		}
	}
	for _, layout := range append(notLayouts(), runs) {
		reject(3, 5, layout)
		reject(16, 16, layout)
	}
}

// writtenWords reads the words of a table: letters are pixels, dots are words 0, and in runs each
// digit is the number of pixels before a letter. Spaces are left out.
func writtenWords(text string) []int {
	var words []int
	for _, letter := range text {
		switch {
		case letter == '.':
			words = append(words, 0)
		case letter >= '1' && letter <= '9':
			words = append(words, int(letter-'0'))
		case letter != ' ':
			words = append(words, int(letter))
		}
	}
	return words
}

func TestStoredLetters(t *testing.T) {
	cases := []struct {
		rows, lines, tiles, runs string
	}{
		{"a", "a", "a... .... .... ....", "1a"},
		{"aab", "aab", "aab. .... .... ....", "2a1b"},
		{"abc/def", "abc def", "abc. def. .... ....", "1a1b1c 1d1e1f"},
		{"aaaa/aaaa", "aaaa aaaa", "aaaa aaaa .... ....", "4a 4a"},
		{"aba/abb", "aba abb", "aba. abb. .... ....", "1a1b1a 1a2b"},
		{"abcde", "abcde", "abcd .... .... .... e... .... .... ....", "1a1b1c1d1e"},
		{"a/b/c/c/c", "abccc", "a... b... c... c... c... .... .... ....", "1a1b1c1c1c"},
		{"abcd/efgh/ijkl/mnop", "abcdefghijklmnop", "abcd efgh ijkl mnop", "1a1b1c1d 1e1f1g1h 1i1j1k1l 1m1n1o1p"},
		{"abbbbb/bbbbba", "abbbbb bbbbba", "abbb bbbb .... .... bb.. ba.. .... ....", "1a5b 5b1a"},
		{"abcde/fghij/klmno/pqrst/uvwxy", "abcdefghijklmnopqrstuvwxy",
			"abcd fghi klmn pqrs  e... j... o... t...  uvwx .... .... ....  y... .... .... ....",
			"1a1b1c1d1e 1f1g1h1i1j 1k1l1m1n1o 1p1q1r1s1t 1u1v1w1x1y"},
		{"aaaaaaaab", "aaaaaaaab", "aaaa .... .... .... aaaa .... .... .... b... .... .... ....", "8a1b"},
	}
	for _, c := range cases {
		i := writtenImage(c.rows)
		for layout, text := range []string{c.lines, c.tiles, c.runs} {
			want := writtenWords(text)
			if got, ok := impl.StoreImage(i, layout); !ok || !slices.Equal(got, want) {
				t.Errorf("%s: StoreImage in layout %d is %v, %v; want %v", c.rows, layout, got, ok, want)
			}
			if got, ok := impl.LoadImage(want, i.W, i.H, layout); !ok || !equalImages(got, i) {
				t.Errorf("%s: LoadImage in layout %d is %v, %v", c.rows, layout, got, ok)
			}
		}
	}
}

func TestStoreImageIsAsDefined(t *testing.T) {
	forAllSides(func(w, h int) {
		for _, i := range imagesOfSize(w, h) {
			for layout := range layoutCount {
				got, ok := impl.StoreImage(i, layout)
				if want := wordsOf(i, layout); !ok || !slices.Equal(got, want) {
					t.Errorf("StoreImage(%v, %d) = %v, %v; want %v", i, layout, got, ok, want)
				}
			}
		}
	})
}

// TestStoredWordsHaveTheirPlaces checks that the functions of one layout agree.
func TestStoredWordsHaveTheirPlaces(t *testing.T) {
	forAllSides(func(w, h int) {
		i := invertedPixels(unlikePixels(w, h))
		for layout := range runs {
			words, _ := impl.StoreImage(i, layout)
			if n := impl.WordCount(w, h, layout); n != len(words) {
				t.Fatalf("WordCount(%d, %d, %d) is %d; there are %d words", w, h, layout, n, len(words))
			}
			for _, place := range placesOfLines(w, h) {
				n := impl.WordPlace(w, h, layout, place[0], place[1])
				if words[n] != impl.PixelOf(i, place[0], place[1]) {
					t.Errorf("the pixel %v of %d by %d pixels is not word %d of layout %d", place, w, h, n, layout)
				}
			}
		}
	})
}

func TestStoreImageRejectsInvalidArguments(t *testing.T) {
	reject := func(i impl.Image, layout int) {
		if got, ok := impl.StoreImage(i, layout); ok || got != nil {
			t.Errorf("StoreImage(%v, %d) = %v, %v", i, layout, got, ok)
		}
	}
	for _, i := range invalidImages() {
		for layout := range layoutCount {
			reject(i, layout)
		}
		reject(i, layoutCount)
	}
	for _, layout := range notLayouts() {
		for _, size := range fewSizes() {
			reject(unlikePixels(size[0], size[1]), layout)
		}
	}
}

// TestImagesCanBeLoadedFromEveryLayout is promise 15.
func TestImagesCanBeLoadedFromEveryLayout(t *testing.T) {
	forAllSides(func(w, h int) {
		for _, i := range imagesOfSize(w, h) {
			for layout := range layoutCount {
				words, stored := impl.StoreImage(i, layout)
				got, loaded := impl.LoadImage(words, w, h, layout)
				if !stored || !loaded || !equalImages(got, i) {
					t.Errorf("LoadImage(%v, %d, %d, %d) = %v, %v; want %v", words, w, h, layout, got, loaded, i)
				}
			}
		}
	})
}

// TestImagesOfAllPixelsCanBeLoaded stores each pixel at the first, a middle and the last place.
func TestImagesOfAllPixelsCanBeLoaded(t *testing.T) {
	for _, p := range somePixels() {
		for _, i := range []impl.Image{image(1, 1, p), image(3, 2, p, 1, 2, 3, p, p), image(2, 2, p, p, p, p), image(5, 1, 1, 2, p, p, p)} {
			for layout := range layoutCount {
				words, _ := impl.StoreImage(i, layout)
				if got, ok := impl.LoadImage(words, i.W, i.H, layout); !ok || !equalImages(got, i) {
					t.Errorf("LoadImage(%v, %d, %d, %d) = %v, %v; want %v", words, i.W, i.H, layout, got, ok, i)
				}
			}
		}
	}
}
