package tests

import (
	"math"
	"slices"
	"strconv"
	"testing"

	"loop.example/g03313/impl"
)

// checkLoad compares the result of LoadImage with the image that is stored in words, if any.
func checkLoad(t *testing.T, words []int, w, h, layout int, want impl.Image, stored bool) {
	t.Helper()
	got, ok := impl.LoadImage(words, w, h, layout)
	if ok != stored || !equalImages(got, want) {
		t.Errorf("LoadImage(%v, %d, %d, %d) = %v, %v; want %v, %v", words, w, h, layout, got, ok, want, stored)
	}
}

// checkNoImage checks that words are rejected.
func checkNoImage(t *testing.T, words []int, w, h, layout int) {
	t.Helper()
	checkLoad(t, words, w, h, layout, impl.Image{}, false)
}

// textOfWords is the same for no other list.
func textOfWords(words []int) string {
	text := ""
	for _, n := range words {
		text += strconv.Itoa(n) + " "
	}
	return text
}

// imagesByWords are all images of a size with pixels up to highest, by the text of their words.
func imagesByWords(w, h, layout, highest int) map[string]impl.Image {
	stored := map[string]impl.Image{}
	for _, data := range numberLists(w*h, 0, highest) {
		i := image(w, h, data...)
		stored[textOfWords(wordsOf(i, layout))] = i
	}
	return stored
}

// TestOnlyStoredWordsAreLoaded tries all short lists of words: images are loaded from those that
// are the words of an image, and from no others.
func TestOnlyStoredWordsAreLoaded(t *testing.T) {
	const highest = 3
	for _, size := range [][2]int{{1, 1}, {1, 2}, {2, 1}, {1, 3}, {3, 1}, {2, 2}, {4, 1}} {
		for _, layout := range []int{lines, runs} {
			stored := imagesByWords(size[0], size[1], layout, highest)
			found := 0
			for length := range 7 {
				for _, words := range numberLists(length, -1, highest) {
					want, ok := stored[textOfWords(words)]
					checkLoad(t, words, size[0], size[1], layout, want, ok)
					if ok {
						found++
					}
				}
			}
			if found == 0 {
				t.Errorf("no words of %v in layout %d were tried", size, layout)
			}
		}
	}
}

// readImage reads an image from words without comparing them, to say what is stored in words of
// which only some were changed. The words of pixels have to be there.
func readImage(words []int, w, h, layout int) impl.Image {
	i := drawnImage(w, h, func(x, y int) int { return 0 })
	if layout == runs {
		i.Data = nil
		for k := 0; k < len(words); k += 2 {
			i.Data = append(i.Data, slices.Repeat([]int{words[k+1]}, words[k])...)
		}
		return i
	}
	for k, place := range placesOfWords(w, h, layout) {
		if place != filler {
			i.Data[place[1]*w+place[0]] = words[k]
		}
	}
	return i
}

// TestEachWordCounts changes one word at a time. The image is another one then, or there is none.
func TestEachWordCounts(t *testing.T) {
	for _, size := range fewSizes() {
		w, h := size[0], size[1]
		for _, i := range imagesOfSize(w, h) {
			for layout := range layoutCount {
				words := wordsOf(i, layout)
				for k, before := range words {
					words[k] = before ^ 1
					if layout == runs && k%2 == 0 {
						checkNoImage(t, words, w, h, layout)
					} else if changed := readImage(words, w, h, layout); slices.Equal(wordsOf(changed, layout), words) {
						checkLoad(t, words, w, h, layout, changed, true)
					} else {
						checkNoImage(t, words, w, h, layout)
					}
					words[k] = before
				}
			}
		}
	}
}

// TestWordsThatAreNoPixels writes numbers that are no pixels into words of pixels and fillers.
func TestWordsThatAreNoPixels(t *testing.T) {
	for _, size := range fewSizes() {
		w, h := size[0], size[1]
		for layout := range layoutCount {
			words := wordsOf(unlikePixels(w, h), layout)
			for _, n := range notPixels() {
				for k := range words {
					changed := slices.Clone(words)
					changed[k] = n
					checkNoImage(t, changed, w, h, layout)
				}
			}
		}
	}
}

func TestFillersAreZero(t *testing.T) {
	forAllSides(func(w, h int) {
		words := wordsOf(unlikePixels(w, h), tiles)
		for k, place := range placesOfTiles(w, h) {
			if place != filler {
				continue
			}
			for _, n := range []int{1, -1, highestPixel, 0xff000000, math.MinInt} {
				words[k] = n
				checkNoImage(t, words, w, h, tiles)
			}
			words[k] = 0
		}
		checkLoad(t, words, w, h, tiles, unlikePixels(w, h), true)
	})
}

// TestLoadImageTakesAllWords leaves words out or adds some, at the beginning, at the end and
// between.
func TestLoadImageTakesAllWords(t *testing.T) {
	for _, size := range fewSizes() {
		w, h := size[0], size[1]
		for layout := range layoutCount {
			words := wordsOf(unlikePixels(w, h), layout)
			checkNoImage(t, nil, w, h, layout)
			checkNoImage(t, []int{}, w, h, layout)
			for k := range words {
				checkNoImage(t, words[:k], w, h, layout)
				checkNoImage(t, slices.Delete(slices.Clone(words), k, k+1), w, h, layout)
				for _, n := range []int{0, 1, highestPixel} {
					checkNoImage(t, slices.Insert(slices.Clone(words), k, n), w, h, layout)
					checkNoImage(t, slices.Insert(slices.Clone(words), k, 0, n), w, h, layout)
				}
			}
			for _, more := range [][]int{{0}, {1}, {0, 0}, {0, 5}, {1, 5}, {-1, 5}, {0, 5, 0, 6}, {1, 5, -1, 5}, make([]int, 16), words} {
				checkNoImage(t, append(slices.Clone(words), more...), w, h, layout)
			}
		}
	}
}

func TestRunsThatAreNotStored(t *testing.T) {
	cases := []struct {
		name  string
		w, h  int
		words []int
	}{
		{"two runs of the same pixel", 2, 1, []int{1, 7, 1, 7}},
		{"two runs of the same pixel and another one", 3, 1, []int{1, 7, 1, 7, 1, 9}},
		{"a run over two rows", 2, 2, []int{4, 7}},
		{"a run over the end of a row", 2, 2, []int{1, 5, 2, 7, 1, 9}},
		{"runs over all rows", 1, 3, []int{3, 7}},
		{"an empty run at the beginning", 2, 1, []int{0, 7, 2, 9}},
		{"an empty run at the end", 2, 1, []int{2, 9, 0, 7}},
		{"an empty run between", 2, 1, []int{1, 9, 0, 7, 1, 5}},
		{"an empty run that parts a run", 2, 1, []int{1, 9, 0, 7, 1, 9}},
		{"nothing but an empty run", 1, 1, []int{0, 7}},
		{"a run of fewer than no pixels", 2, 1, []int{-1, 7, 2, 9}},
		{"runs whose sum is right", 2, 1, []int{3, 7, -1, 9}},
		{"runs whose sum is right, the first one negative", 2, 1, []int{-1, 7, 3, 9}},
		{"too few pixels", 3, 1, []int{1, 7, 1, 9}},
		{"too many pixels", 3, 1, []int{1, 7, 3, 9}},
		{"one run too long", 3, 1, []int{4, 7}},
		{"one run too many", 3, 1, []int{3, 7, 1, 9}},
		{"a row too many", 3, 1, []int{3, 7, 3, 9}},
		{"a run without a pixel", 3, 1, []int{3}},
		{"a run without a pixel at the end", 3, 1, []int{2, 7, 1}},
		{"a number after the runs", 3, 1, []int{3, 7, 0}},
		{"pixels before their numbers", 3, 1, []int{7, 2, 9, 1}},
		{"pixels without their numbers", 4, 1, []int{7, 7, 9, 9}},
	}
	for _, c := range cases {
		got, ok := impl.LoadImage(c.words, c.w, c.h, runs)
		if ok || !equalImages(got, impl.Image{}) {
			t.Errorf("%s: LoadImage(%v, %d, %d) = %v, %v", c.name, c.words, c.w, c.h, got, ok)
		}
	}
}

// TestRunsOfFarLength has runs for whose pixels there is no memory, some of which have the right
// sum if it is more than an int can hold.
func TestRunsOfFarLength(t *testing.T) {
	lengths := append(farNumbers(), 257, 17, 1<<40, 1<<62, -1<<62, 1<<62+1<<61)
	for _, size := range fewSizes() {
		w, h := size[0], size[1]
		for _, n := range lengths {
			checkNoImage(t, []int{n, 7}, w, h, runs)
			checkNoImage(t, []int{n, 7, 1, 9}, w, h, runs)
			checkNoImage(t, []int{1, 9, n, 7}, w, h, runs)
			checkNoImage(t, []int{n, 7, w*h - n, 9}, w, h, runs)
			checkNoImage(t, []int{n, 7, n, 8, w*h - n - n, 9}, w, h, runs)
			checkNoImage(t, []int{w, 9, n, 7, -n, 5}, w, h, runs)
		}
		checkNoImage(t, []int{math.MaxInt, 7, math.MaxInt, 8, w*h + 2, 9}, w, h, runs)
	}
}

// TestLongListsOfWords has more words than any image.
func TestLongListsOfWords(t *testing.T) {
	for _, n := range []int{257, 512, 513, 514, 1 << 20, 1<<20 + 1} {
		for _, p := range []int{0, 1, -1, 5, math.MaxInt} {
			for layout := range layoutCount {
				checkNoImage(t, slices.Repeat([]int{p}, n), 16, 16, layout)
				checkNoImage(t, slices.Repeat([]int{p}, n), 1, 1, layout)
			}
		}
	}
}

// TestWordsOfAnotherSize loads the words of an image as those of another size. In lines that is
// another image if it has as many pixels.
func TestWordsOfAnotherSize(t *testing.T) {
	for _, from := range fewSizes() {
		i := unlikePixels(from[0], from[1])
		words := wordsOf(i, lines)
		forAllSides(func(w, h int) {
			if w*h == len(words) {
				checkLoad(t, words, w, h, lines, image(w, h, i.Data...), true)
			} else {
				checkNoImage(t, words, w, h, lines)
			}
		})
	}
	for _, layout := range []int{tiles, runs} {
		checkNoImage(t, wordsOf(drawnImage(4, 2, func(x, y int) int { return 7 }), layout), 2, 4, layout)
		checkNoImage(t, wordsOf(drawnImage(8, 4, func(x, y int) int { return x + 1 }), tiles), 7, 4, layout)
	}
	checkLoad(t, wordsOf(unlikePixels(8, 4), tiles), 4, 8, tiles, readImage(wordsOf(unlikePixels(8, 4), tiles), 4, 8, tiles), true)
	checkLoad(t, wordsOf(unlikePixels(3, 2), runs), 2, 3, runs, image(2, 3, unlikePixels(3, 2).Data...), true)
}

// TestWordsOfAnotherLayout loads the words of an image in one layout as those of another one.
func TestWordsOfAnotherLayout(t *testing.T) {
	for _, size := range fewSizes() {
		w, h := size[0], size[1]
		i := unlikePixels(w, h)
		for layout := range layoutCount {
			words := wordsOf(i, layout)
			for other := range layoutCount {
				// Images as wide as a tile have the same words in lines and in whole tiles.
				if slices.Equal(wordsOf(i, other), words) {
					checkLoad(t, words, w, h, other, i, true)
				} else if other == runs || len(words) != len(wordsOf(i, other)) {
					checkNoImage(t, words, w, h, other)
				}
			}
		}
	}
}

func TestLoadImageRejectsWrongSides(t *testing.T) {
	for layout := range layoutCount {
		for _, words := range [][]int{nil, {0}, {1}, {1, 1}, {16, 5}, {17, 5}, slices.Repeat([]int{1}, 16), slices.Repeat([]int{1}, 17), slices.Repeat([]int{2, 7}, 16), make([]int, 256), make([]int, 272), make([]int, 320), {1 << 40, 7}, {math.MaxInt, 7}} {
			for _, wrong := range notSides() {
				for _, side := range []int{1, 2, 4, 5, 16} {
					checkNoImage(t, words, wrong, side, layout)
					checkNoImage(t, words, side, wrong, layout)
				}
				checkNoImage(t, words, wrong, wrong, layout)
			}
		}
	}
	// These would be the words of images that are one pixel too wide or too high.
	for _, size := range [][2]int{{17, 1}, {1, 17}, {17, 16}, {16, 17}, {17, 17}, {20, 20}} {
		for layout := range layoutCount {
			checkNoImage(t, wordsOf(unlikePixels(size[0], size[1]), layout), size[0], size[1], layout)
		}
	}
}

func TestLoadImageRejectsWhatIsNoLayout(t *testing.T) {
	for _, size := range fewSizes() {
		for _, i := range imagesOfSize(size[0], size[1]) {
			for layout := range layoutCount {
				for _, wrong := range notLayouts() {
					checkNoImage(t, wordsOf(i, layout), i.W, i.H, wrong)
				}
			}
		}
	}
}

// TestLayoutsShareNoMemory stores and loads in front of spare capacity, and changes the results.
func TestLayoutsShareNoMemory(t *testing.T) {
	for _, size := range fewSizes() {
		w, h := size[0], size[1]
		for layout := range layoutCount {
			memory := append(slices.Clone(unlikePixels(w, h).Data), -7, -8, -9)
			given := impl.Image{W: w, H: h, Data: memory[:w*h]}
			words, _ := impl.StoreImage(given, layout)
			stored := append(slices.Clone(words), -7, -8, -9)
			for k := range words {
				words[k] = -5
			}
			_ = append(words, -6)
			loaded, _ := impl.LoadImage(stored[:len(words)], w, h, layout)
			if !equalImages(loaded, given) {
				t.Errorf("%v in layout %d was loaded as %v", given, layout, loaded)
			}
			for k := range loaded.Data {
				loaded.Data[k] = -5
			}
			_ = append(loaded.Data, -6)
			if want := append(unlikePixels(w, h).Data, -7, -8, -9); !slices.Equal(memory, want) {
				t.Errorf("StoreImage of %v in layout %d changed its memory to %v", want, layout, memory)
			}
			if want := append(wordsOf(given, layout), -7, -8, -9); !slices.Equal(stored, want) {
				t.Errorf("LoadImage of %v in layout %d changed its memory to %v", want, layout, stored)
			}
		}
	}
}
