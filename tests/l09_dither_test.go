package tests

import (
	"math"
	"slices"
	"testing"

	"loop.example/g03313/impl"
)

// highestDot is written out, so that a wrong limit of the program is found.
const highestDot = 262143

// notDots are numbers just outside of the range of a dot and far from it.
func notDots() []int {
	return []int{-1, highestDot + 1, -2, highestDot + 2, -highestDot, -highestDot - 1, 1 << 24, 1 << 32, 1<<32 + 5, -1 << 32, 1 << 62, math.MaxInt, math.MinInt, math.MinInt + 1}
}

// someDots are dots with levels at their limits and between, and with unlike levels.
func someDots() []int {
	list := []int{0, highestDot, 1, 1 << 17, 1<<17 - 1}
	for _, level := range []int{0, 1, 2, 31, 32, 33, 62, 63} {
		list = append(list, level*4096, level*64, level, level*4096+5*64+60, 5*4096+level*64+60, 60*4096+5*64+level, level*4096+level*64+level)
	}
	return list
}

// dotLevels returns the three levels of a dot, as digits of a number with base 64.
func dotLevels(d int) [3]int {
	return [3]int{d / 64 / 64, d / 64 % 64, d % 64}
}

// farNumbers are coordinates far from the screen, even and odd ones.
func farNumbers() []int {
	return []int{math.MinInt, math.MinInt + 1, -1 << 32, -1<<32 - 1, -1001, -1000, 1000, 1001, 1 << 32, 1<<32 + 1, math.MaxInt - 1, math.MaxInt}
}

// somePlaces are places of all four kinds on the screen, to the left of it, above it and far away.
func somePlaces() [][2]int {
	var list [][2]int
	for y := -3; y <= 3; y++ {
		for x := -3; x <= 3; x++ {
			list = append(list, [2]int{x, y})
		}
	}
	for _, n := range farNumbers() {
		list = append(list, [2]int{n, 0}, [2]int{n, 1}, [2]int{0, n}, [2]int{1, n}, [2]int{n, n})
	}
	return append(list, [2]int{15, 15}, [2]int{14, 15}, [2]int{15, 14}, [2]int{14, 14})
}

// placeThreshold finds Threshold by its definition.
func placeThreshold(x, y int) int {
	switch evenX, evenY := x%2 == 0, y%2 == 0; {
	case evenX && evenY:
		return 0
	case evenY:
		return 2
	case evenX:
		return 3
	}
	return 1
}

// searchedLevel finds DitherLevel without a division.
func searchedLevel(v, x, y int) int {
	level := 0
	for 1020*(level+1) <= 252*v+255*placeThreshold(x, y) {
		level++
	}
	return level
}

// searchedDot finds DitherPixel by its definition.
func searchedDot(p, x, y int) int {
	c := digits(p)
	return (searchedLevel(c[1], x, y)*64+searchedLevel(c[2], x, y))*64 + searchedLevel(c[3], x, y)
}

func TestMaxLevelIsTheHighestOfSixBits(t *testing.T) {
	if impl.MaxLevel != 63 {
		t.Errorf("MaxLevel is %d", impl.MaxLevel)
	}
}

func TestThreshold(t *testing.T) {
	rows := [2][2]int{{0, 2}, {3, 1}}
	for y := range 16 {
		for x := range 16 {
			if got, want := impl.Threshold(x, y), rows[y%2][x%2]; got != want {
				t.Errorf("Threshold(%d, %d) = %d; want %d", x, y, got, want)
			}
		}
	}
}

// TestThresholdIsDefinedEverywhere also tries negative numbers, of which -1 is odd.
func TestThresholdIsDefinedEverywhere(t *testing.T) {
	numbers := farNumbers()
	for n := -20; n <= 20; n++ {
		numbers = append(numbers, n)
	}
	for _, x := range numbers {
		for _, y := range numbers {
			if got, want := impl.Threshold(x, y), placeThreshold(x, y); got != want {
				t.Errorf("Threshold(%d, %d) = %d; want %d", x, y, got, want)
			}
		}
	}
}

func TestDitherLevel(t *testing.T) {
	cases := []struct {
		v int
		// want are the levels at (0, 0), (1, 0), (0, 1) and (1, 1).
		want [4]int
	}{
		{0, [4]int{0, 0, 0, 0}},
		{1, [4]int{0, 0, 0, 0}},
		{2, [4]int{0, 0, 1, 0}},
		{3, [4]int{0, 1, 1, 0}},
		{4, [4]int{0, 1, 1, 1}},
		{5, [4]int{1, 1, 1, 1}},
		{6, [4]int{1, 1, 2, 1}},
		{84, [4]int{20, 21, 21, 21}},
		{85, [4]int{21, 21, 21, 21}},
		{86, [4]int{21, 21, 21, 21}},
		{87, [4]int{21, 21, 22, 21}},
		{127, [4]int{31, 31, 32, 31}},
		{128, [4]int{31, 32, 32, 31}},
		{169, [4]int{41, 42, 42, 42}},
		{170, [4]int{42, 42, 42, 42}},
		{250, [4]int{61, 62, 62, 62}},
		{251, [4]int{62, 62, 62, 62}},
		{253, [4]int{62, 63, 63, 62}},
		{254, [4]int{62, 63, 63, 63}},
		{255, [4]int{63, 63, 63, 63}},
	}
	for _, c := range cases {
		for k, want := range c.want {
			x, y := k%2, k/2
			if got := impl.DitherLevel(c.v, x, y); got != want {
				t.Errorf("DitherLevel(%d, %d, %d) = %d; want %d", c.v, x, y, got, want)
			}
		}
	}
}

func TestDitherLevelAtAllPlaces(t *testing.T) {
	for _, at := range somePlaces() {
		for v := range 256 {
			if got, want := impl.DitherLevel(v, at[0], at[1]), searchedLevel(v, at[0], at[1]); got != want {
				t.Errorf("DitherLevel(%d, %d, %d) = %d; want %d", v, at[0], at[1], got, want)
			}
		}
	}
}

func TestDitherLevelRejectsWhatIsNoChannel(t *testing.T) {
	for _, at := range somePlaces() {
		for _, v := range append(notChannels(), 257, 260, -3, -4, -5) {
			if got := impl.DitherLevel(v, at[0], at[1]); got != -1 {
				t.Errorf("DitherLevel(%d, %d, %d) = %d", v, at[0], at[1], got)
			}
		}
	}
}

// TestDitherLevelKeepsTheOrder also checks that the two limits and the thirds between them, which
// are whole levels, are the same at all places.
func TestDitherLevelKeepsTheOrder(t *testing.T) {
	for _, at := range somePlaces() {
		for v := 1; v < 256; v++ {
			before, after := impl.DitherLevel(v-1, at[0], at[1]), impl.DitherLevel(v, at[0], at[1])
			if after < before || after > before+1 {
				t.Errorf("at %v, the level of %d is %d and that of %d is %d", at, v-1, before, v, after)
			}
		}
		for third := range 4 {
			if got := impl.DitherLevel(85*third, at[0], at[1]); got != 21*third {
				t.Errorf("at %v, the level of %d is %d; want %d", at, 85*third, got, 21*third)
			}
		}
	}
}

func TestDitherPixel(t *testing.T) {
	cases := []struct {
		p int
		// want are the levels of the dots at (0, 0), (1, 0), (0, 1) and (1, 1).
		want [4][3]int
	}{
		{0, [4][3]int{{0, 0, 0}, {0, 0, 0}, {0, 0, 0}, {0, 0, 0}}},
		{highestPixel, [4][3]int{{63, 63, 63}, {63, 63, 63}, {63, 63, 63}, {63, 63, 63}}},
		{0xff000000, [4][3]int{{0, 0, 0}, {0, 0, 0}, {0, 0, 0}, {0, 0, 0}}},
		{0xffff0000, [4][3]int{{63, 0, 0}, {63, 0, 0}, {63, 0, 0}, {63, 0, 0}}},
		{0xff00ff00, [4][3]int{{0, 63, 0}, {0, 63, 0}, {0, 63, 0}, {0, 63, 0}}},
		{0xff0000ff, [4][3]int{{0, 0, 63}, {0, 0, 63}, {0, 0, 63}, {0, 0, 63}}},
		{0xff020304, [4][3]int{{0, 0, 0}, {0, 1, 1}, {1, 1, 1}, {0, 0, 1}}},
		{0x0055aaff, [4][3]int{{21, 42, 63}, {21, 42, 63}, {21, 42, 63}, {21, 42, 63}}},
		{0x80fe8002, [4][3]int{{62, 31, 0}, {63, 32, 0}, {63, 32, 1}, {63, 31, 0}}},
	}
	for _, c := range cases {
		for k, levels := range c.want {
			x, y := k%2, k/2
			want := levels[0]*4096 + levels[1]*64 + levels[2]
			if got := impl.DitherPixel(c.p, x, y); got != want {
				t.Errorf("DitherPixel(%#08x, %d, %d) = %d; want %d with the levels %v", c.p, x, y, got, want, levels)
			}
		}
	}
}

func TestDitherPixelHasTheLevelsOfItsChannels(t *testing.T) {
	for _, at := range somePlaces() {
		x, y := at[0], at[1]
		for _, p := range somePixels() {
			got := impl.DitherPixel(p, x, y)
			if want := searchedDot(p, x, y); got != want {
				t.Errorf("DitherPixel(%#x, %d, %d) = %d; want %d", p, x, y, got, want)
			}
			for k := range 3 {
				if level, want := impl.LevelOf(got, k), impl.DitherLevel(impl.ChannelOf(p, k+1), x, y); level != want {
					t.Errorf("level %d of %#x at (%d, %d) is %d; want %d", k, p, x, y, level, want)
				}
			}
		}
	}
}

func TestDitherPixelLeavesAlphaOut(t *testing.T) {
	for _, at := range somePlaces() {
		want := impl.DitherPixel(0xff32aa81, at[0], at[1])
		for a := range 256 {
			if got := impl.DitherPixel(a<<24|0x32aa81, at[0], at[1]); got != want {
				t.Errorf("at %v, the dot is %d with the alpha %d, and %d with 255", at, got, a, want)
			}
		}
	}
}

func TestDitherPixelRejectsWhatIsNoPixel(t *testing.T) {
	for _, at := range somePlaces() {
		for _, p := range notPixels() {
			if got := impl.DitherPixel(p, at[0], at[1]); got != -1 {
				t.Errorf("DitherPixel(%d, %d, %d) = %d", p, at[0], at[1], got)
			}
		}
	}
}

func TestDitherImage(t *testing.T) {
	forAllSides(func(w, h int) {
		for _, i := range []impl.Image{unlikePixels(w, h), invertedPixels(unlikePixels(w, h))} {
			var want []int
			for k, p := range i.Data {
				want = append(want, searchedDot(p, k%w, k/w))
			}
			if got := impl.DitherImage(i); !slices.Equal(got, want) || !impl.PictureOk(got, w, h) {
				t.Errorf("DitherImage(%v) = %v; want %v", i, got, want)
			}
		}
	})
}

func TestDitherImageRejectsInvalidImages(t *testing.T) {
	for _, i := range invalidImages() {
		if got := impl.DitherImage(i); len(got) != 0 {
			t.Errorf("DitherImage(%v) = %v", i, got)
		}
	}
}

// squareSum adds up the levels of a square of two by two dots.
func squareSum(level func(x, y int) int, x, y int) int {
	return level(x, y) + level(x+1, y) + level(x, y+1) + level(x+1, y+1)
}

// wholeQuarters finds the highest number of quarters of a level that is not above a channel.
func wholeQuarters(v int) int {
	quarters := 0
	for 255*(quarters+1) <= 252*v {
		quarters++
	}
	return quarters
}

// TestDitheringKeepsTheMeanOfEachSquare takes squares at all places, those that begin at an odd
// one among them: four dots of one channel have as many quarters of a level as the channel.
func TestDitheringKeepsTheMeanOfEachSquare(t *testing.T) {
	for v := range 256 {
		want := wholeQuarters(v)
		level := func(x, y int) int { return impl.DitherLevel(v, x, y) }
		for y := -3; y <= 16; y++ {
			for x := -3; x <= 16; x++ {
				if got := squareSum(level, x, y); got != want {
					t.Errorf("the levels of %d in the square at (%d, %d) have the sum %d; want %d", v, x, y, got, want)
				}
			}
		}
	}
}

// TestDitheringKeepsTheMeanOfAPlainImage checks each square of two by two dots for each of three
// unlike channels.
func TestDitheringKeepsTheMeanOfAPlainImage(t *testing.T) {
	forAllSides(func(w, h int) {
		for _, c := range [][3]int{{0, 128, 255}, {1, 77, 200}, {254, 2, 85}, {131, 129, 130}, {16 * h, 15 * w, 7 * (w + h)}} {
			c = [3]int{min(255, c[0]), min(255, c[1]), min(255, c[2])}
			picture := impl.DitherImage(impl.NewImage(w, h, impl.MakePixel(255, c[0], c[1], c[2])))
			if len(picture) != w*h {
				t.Fatalf("the picture of %d by %d dots has %d dots", w, h, len(picture))
			}
			for k := range 3 {
				level := func(x, y int) int { return impl.LevelOf(picture[y*w+x], k) }
				for y := range h - 1 {
					for x := range w - 1 {
						if got, want := squareSum(level, x, y), wholeQuarters(c[k]); got != want {
							t.Errorf("in a picture of %d by %d dots, the levels of %d in the square at (%d, %d) have the sum %d; want %d", w, h, c[k], x, y, got, want)
						}
					}
				}
			}
		}
	})
}

// TestDitheringKeepsTheMeanOfUnlikeChannels adds up squares of unlike channels: each level is less
// than the channel by less than the part of a level that its threshold leaves, and more by no more
// than the threshold. These parts add up to 10 and to 6 quarters of a level.
func TestDitheringKeepsTheMeanOfUnlikeChannels(t *testing.T) {
	for n := range 4096 {
		p, q := n*0x01030507%highestPixel, n*0x0b0d1113%highestPixel
		i := image(3, 3, p, q, n*64%256<<8, highestPixel-p, n, highestPixel-q, p, q/3, n*n)
		picture := impl.DitherImage(i)
		if len(picture) != len(i.Data) {
			t.Fatalf("the picture of %v is %v", i, picture)
		}
		for k := range 3 {
			level := func(x, y int) int { return impl.LevelOf(picture[3*y+x], k) }
			channel := func(x, y int) int { return digits(i.Data[3*y+x])[k+1] }
			for _, at := range [][2]int{{0, 0}, {1, 0}, {0, 1}, {1, 1}} {
				more := 4 * (255*squareSum(level, at[0], at[1]) - 63*squareSum(channel, at[0], at[1]))
				if more <= -10*255 || more > 6*255 {
					t.Errorf("in the square at %v of %v, the levels %d are brighter than the channels by %d parts of a level in 1020", at, i, k, more)
				}
			}
		}
	}
}

func TestLevelOf(t *testing.T) {
	cases := []struct {
		d    int
		want [3]int
	}{
		{0, [3]int{0, 0, 0}}, {highestDot, [3]int{63, 63, 63}}, {258048, [3]int{63, 0, 0}}, {4032, [3]int{0, 63, 0}}, {63, [3]int{0, 0, 63}},
		{4096, [3]int{1, 0, 0}}, {4095, [3]int{0, 63, 63}}, {64, [3]int{0, 1, 0}}, {1, [3]int{0, 0, 1}}, {131072, [3]int{32, 0, 0}}, {83, [3]int{0, 1, 19}},
		{123456, [3]int{30, 9, 0}},
	}
	for _, c := range cases {
		for k, want := range c.want {
			if got := impl.LevelOf(c.d, k); got != want {
				t.Errorf("LevelOf(%d, %d) = %d; want %d", c.d, k, got, want)
			}
		}
	}
	for d := range highestDot + 1 {
		if got, want := [3]int{impl.LevelOf(d, 0), impl.LevelOf(d, 1), impl.LevelOf(d, 2)}, dotLevels(d); got != want {
			t.Errorf("the levels of %d are %v; want %v", d, got, want)
		}
	}
}

func TestLevelOfRejectsInvalidArguments(t *testing.T) {
	for _, d := range notDots() {
		for k := -2; k <= 4; k++ {
			if got := impl.LevelOf(d, k); got != -1 {
				t.Errorf("LevelOf(%d, %d) = %d", d, k, got)
			}
		}
	}
	for _, d := range someDots() {
		for _, k := range []int{-1, 3, -2, -3, 4, 6, 18, 1 << 32, -1 << 32, 1 << 62, math.MaxInt, math.MinInt, math.MinInt + 2} {
			if got := impl.LevelOf(d, k); got != -1 {
				t.Errorf("LevelOf(%d, %d) = %d", d, k, got)
			}
		}
	}
}

func TestPictureSizes(t *testing.T) {
	for w := -1; w <= screenSide+1; w++ {
		for h := -1; h <= screenSide+1; h++ {
			for length := max(0, w*h-1); length <= max(0, w*h)+1; length++ {
				list := slices.Repeat([]int{highestDot}, length)
				want := w >= 1 && w <= screenSide && h >= 1 && h <= screenSide && length == w*h
				if got := impl.PictureOk(list, w, h); got != want {
					t.Errorf("a picture of %d by %d with %d dots: PictureOk is %v", w, h, length, got)
				}
			}
		}
	}
}

func TestPictureOkRejectsOtherSizes(t *testing.T) {
	for _, i := range imagesOfWrongSize() {
		if impl.PictureOk(i.Data, i.W, i.H) {
			t.Errorf("PictureOk(%v, %d, %d) is true", i.Data, i.W, i.H)
		}
	}
	for _, n := range notSides() {
		for _, other := range []int{1, 2, 16, n, 0, 17, -1} {
			for _, list := range [][]int{nil, {0}, {1, 2}, make([]int, 16), make([]int, 256)} {
				if impl.PictureOk(list, n, other) || impl.PictureOk(list, other, n) {
					t.Errorf("PictureOk is true for %d dots and the sides %d and %d", len(list), n, other)
				}
			}
		}
	}
}

func TestPictureOkTakesAllDots(t *testing.T) {
	for _, d := range someDots() {
		if !impl.PictureOk([]int{d}, 1, 1) || !impl.PictureOk([]int{0, 1, d, 3, highestDot, d}, 3, 2) {
			t.Errorf("PictureOk is false for a picture with the dot %d", d)
		}
	}
}

func TestPictureOkChecksEachDot(t *testing.T) {
	for _, size := range someSizes() {
		list := make([]int, size[0]*size[1])
		for k := range list {
			list[k] = 1023 * k
		}
		if !impl.PictureOk(list, size[0], size[1]) {
			t.Errorf("PictureOk(%v, %d, %d) is false", list, size[0], size[1])
		}
		for k, d := range list {
			for _, n := range notDots() {
				list[k] = n
				if impl.PictureOk(list, size[0], size[1]) {
					t.Errorf("PictureOk is true with %d at place %d of %v", n, k, size)
				}
			}
			list[k] = d
		}
	}
}

// TestDitheringSharesNoMemory dithers an image in front of spare capacity that holds other pixels,
// and changes the results.
func TestDitheringSharesNoMemory(t *testing.T) {
	memory := []int{1, 2, 0xff030405, 0x00ff8040, 0xff808080, 6, highestPixel, 0xff101112, 9, 10}
	before := slices.Clone(memory)
	i := impl.Image{W: 3, H: 2, Data: memory[1:7]}
	want := impl.DitherImage(i)
	for range 2 {
		changed := impl.DitherImage(i)
		for k := range changed {
			changed[k] = -5
		}
		_ = append(changed, -6)
		_ = append(impl.DitherImage(impl.Image{W: 4, H: 4, Data: memory[1:7]}), -7)
	}
	impl.PictureOk(memory[1:7], 3, 2)
	if !slices.Equal(memory, before) {
		t.Errorf("the argument became %v", memory)
	}
	if got := impl.DitherImage(i); !slices.Equal(got, want) || slices.Contains(want, -5) {
		t.Errorf("a change of a result is seen in %v", got)
	}
}
