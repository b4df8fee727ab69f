package tests

import (
	"math"
	"slices"
	"testing"

	"loop.example/g03313/impl"
)

func color(matrix, curve []int) impl.ColorMap {
	return impl.ColorMap{Matrix: slices.Clone(matrix), Curve: slices.Clone(curve)}
}

// plainMatrix and plainCurve are those of the identity, written out.
func plainMatrix() []int {
	return []int{256, 0, 0, 0, 256, 0, 0, 0, 256}
}

func plainCurve() []int {
	return []int{0, 16, 32, 48, 64, 80, 96, 112, 128, 144, 160, 176, 192, 208, 224, 240, 256}
}

func equalColors(a, b impl.ColorMap) bool {
	return slices.Equal(a.Matrix, b.Matrix) && slices.Equal(a.Curve, b.Curve)
}

// someMatrices have weights at their limits and between, and rows that mix, invert, clear and
// fill channels.
func someMatrices() [][]int {
	return [][]int{
		plainMatrix(),
		{0, 256, 0, 0, 0, 256, 256, 0, 0},
		{85, 86, 85, 77, 151, 28, 128, 0, 128},
		{0, 0, 0, 1024, 1024, 1024, -1024, -1024, -1024},
		{1024, -1024, 0, 0, 1024, -1024, -1023, 0, 1023},
		{1, 2, 4, -1, -2, -4, 255, 257, -256},
		{300, -20, -24, -31, 313, -26, 7, -64, 313},
		make([]int, 9),
	}
}

// risingCurves rise, or stay level, from each point to the next one; some reach both limits, and
// some neither.
func risingCurves() [][]int {
	return [][]int{
		plainCurve(),
		make([]int, 17),
		slices.Repeat([]int{256}, 17),
		slices.Repeat([]int{255}, 17),
		{0, 0, 0, 0, 0, 0, 0, 0, 256, 256, 256, 256, 256, 256, 256, 256, 256},
		{0, 256, 256, 256, 256, 256, 256, 256, 256, 256, 256, 256, 256, 256, 256, 256, 256},
		{0, 0, 0, 0, 0, 0, 0, 0, 0, 0, 0, 0, 0, 0, 0, 0, 256},
		{0, 1, 2, 3, 4, 5, 6, 7, 8, 9, 10, 11, 12, 13, 14, 15, 16},
		{0, 1, 4, 9, 16, 25, 36, 49, 64, 81, 100, 121, 144, 169, 196, 225, 256},
		{0, 64, 91, 111, 128, 143, 157, 169, 181, 192, 202, 212, 222, 231, 239, 248, 256},
		{30, 30, 31, 33, 33, 60, 61, 61, 100, 107, 107, 130, 147, 148, 165, 182, 199},
		{3, 20, 37, 54, 71, 88, 105, 122, 139, 156, 173, 190, 207, 224, 241, 254, 255},
	}
}

// otherCurves fall, or rise and fall.
func otherCurves() [][]int {
	list := [][]int{
		{0, 256, 0, 256, 0, 256, 0, 256, 0, 256, 0, 256, 0, 256, 0, 256, 0},
		{256, 0, 256, 0, 256, 0, 256, 0, 256, 0, 256, 0, 256, 0, 256, 0, 256},
		{1, 0, 1, 0, 15, 0, 17, 2, 200, 199, 198, 181, 180, 255, 256, 255, 254},
		{100, 99, 97, 94, 90, 85, 79, 72, 64, 55, 45, 34, 22, 22, 23, 9, 4},
	}
	for _, curve := range risingCurves() {
		slices.Reverse(curve)
		list = append(list, curve)
	}
	return list
}

func someColors() []impl.ColorMap {
	var list []impl.ColorMap
	curves := append(risingCurves(), otherCurves()...)
	for n, matrix := range someMatrices() {
		list = append(list, color(matrix, curves[0]), color(matrix, curves[n+8]), color(matrix, curves[len(curves)-1-n]))
	}
	for _, curve := range curves {
		list = append(list, color(plainMatrix(), curve))
	}
	return list
}

func notWeights() []int {
	return []int{-1025, 1025, -1026, 2048, -2048, 1<<32 + 5, -1 << 32, math.MaxInt, math.MinInt}
}

func notPoints() []int {
	return []int{-1, 257, -2, -256, 512, 1<<32 + 5, -1 << 32, math.MaxInt, math.MinInt}
}

// colorsOfWrongLength have too few or too many weights or points, some so many in all as a valid
// map.
func colorsOfWrongLength() []impl.ColorMap {
	list := []impl.ColorMap{
		{}, color(nil, plainCurve()), color(plainMatrix(), nil), color(plainCurve(), plainMatrix()),
		color(append(plainMatrix(), 0), plainCurve()[:16]), color(plainMatrix()[:8], append(plainCurve(), 0)),
		color(slices.Repeat(plainMatrix(), 2), plainCurve()), color(plainMatrix(), slices.Repeat(plainCurve(), 2)),
	}
	zeros := make([]int, 40)
	for n := range zeros {
		if n != 9 {
			list = append(list, color(zeros[:n], plainCurve()))
		}
		if n != 17 {
			list = append(list, color(plainMatrix(), zeros[:n]))
		}
	}
	return list
}

// colorsOfWrongNumbers have one number that is not in its range, at each place.
func colorsOfWrongNumbers() []impl.ColorMap {
	var list []impl.ColorMap
	for k := range 9 {
		for _, n := range notWeights() {
			m := color(plainMatrix(), plainCurve())
			m.Matrix[k] = n
			list = append(list, m)
		}
	}
	for k := range 17 {
		for _, n := range notPoints() {
			m := color(plainMatrix(), plainCurve())
			m.Curve[k] = n
			list = append(list, m)
		}
	}
	return list
}

func invalidColors() []impl.ColorMap {
	return append(colorsOfWrongLength(), colorsOfWrongNumbers()...)
}

// mixedChannel finds MixChannels by its definition.
func mixedChannel(m impl.ColorMap, row, r, g, b int) int {
	sum := m.Matrix[3*row]*r + m.Matrix[3*row+1]*g + m.Matrix[3*row+2]*b
	mean := int(math.Floor(float64(sum+128) / 256))
	return max(0, min(255, mean))
}

// curvedChannel finds CurveAt without a division: it steps from the point before v to the highest
// number that is not above the line to the next point.
func curvedChannel(m impl.ColorMap, v int) int {
	k := 0
	for 16*(k+1) <= v {
		k++
	}
	a, b := m.Curve[k], m.Curve[k+1]
	value := min(a, b)
	for 16*(value+1-a) <= (b-a)*(v-16*k) {
		value++
	}
	return min(value, 255)
}

// coloredPixel finds ColorPixel by its definition.
func coloredPixel(m impl.ColorMap, p int) int {
	c := digits(p)
	colored := c[0]
	for row := range 3 {
		colored = colored*256 + curvedChannel(m, mixedChannel(m, row, c[1], c[2], c[3]))
	}
	return colored
}

func TestOneIsTheWeightOfTheWholeChannel(t *testing.T) {
	if impl.One != 256 {
		t.Errorf("One is %d", impl.One)
	}
}

func TestColorOk(t *testing.T) {
	for _, m := range someColors() {
		if !impl.ColorOk(m) {
			t.Errorf("ColorOk(%v) is false", m)
		}
	}
	for k := range 9 {
		for _, n := range []int{-1024, -1023, -1, 0, 1, 256, 257, 1023, 1024} {
			m := color(plainMatrix(), plainCurve())
			m.Matrix[k] = n
			if !impl.ColorOk(m) {
				t.Errorf("ColorOk(%v) is false", m)
			}
		}
	}
	for k := range 17 {
		for _, n := range []int{0, 1, 128, 255, 256} {
			m := color(plainMatrix(), plainCurve())
			m.Curve[k] = n
			if !impl.ColorOk(m) {
				t.Errorf("ColorOk(%v) is false", m)
			}
		}
	}
}

func TestColorOkRejectsInvalidMaps(t *testing.T) {
	for _, m := range invalidColors() {
		if impl.ColorOk(m) {
			t.Errorf("ColorOk(%v) is true", m)
		}
	}
}

func TestIdentityColor(t *testing.T) {
	if got := impl.IdentityColor(); !equalColors(got, color(plainMatrix(), plainCurve())) || !impl.ColorOk(got) {
		t.Errorf("IdentityColor() = %v", got)
	}
}

func TestMixChannels(t *testing.T) {
	cases := []struct {
		weights       []int
		r, g, b, want int
	}{
		{[]int{0, 0, 0}, 255, 255, 255, 0},
		{[]int{256, 0, 0}, 10, 20, 30, 10},
		{[]int{0, 256, 0}, 10, 20, 30, 20},
		{[]int{0, 0, 256}, 10, 20, 30, 30},
		{[]int{128, 0, 0}, 200, 16, 8, 100},
		{[]int{128, 0, 0}, 3, 0, 0, 2},
		{[]int{127, 0, 0}, 1, 0, 0, 0},
		{[]int{128, 0, 0}, 1, 0, 0, 1},
		{[]int{0, 1, 0}, 0, 127, 0, 0},
		{[]int{0, 1, 0}, 0, 128, 0, 1},
		{[]int{0, 0, 3}, 0, 0, 127, 1},
		{[]int{0, 0, 3}, 0, 0, 128, 2},
		{[]int{1, 1, 1}, 255, 128, 0, 1},
		{[]int{85, 86, 85}, 255, 255, 255, 255},
		{[]int{100, 100, 56}, 9, 99, 199, 86},
		{[]int{256, -256, 0}, 100, 60, 7, 40},
		{[]int{256, -256, 0}, 60, 100, 7, 0},
		{[]int{-1, 0, 0}, 128, 0, 0, 0},
		{[]int{-1, 0, 0}, 129, 0, 0, 0},
		{[]int{256, -1, 0}, 5, 128, 0, 5},
		{[]int{256, -1, 0}, 5, 129, 0, 4},
		{[]int{257, 0, 0}, 127, 0, 0, 127},
		{[]int{257, 0, 0}, 128, 0, 0, 129},
		{[]int{257, 0, 0}, 255, 0, 0, 255},
		{[]int{512, 0, 0}, 127, 0, 0, 254},
		{[]int{512, 0, 0}, 128, 0, 0, 255},
		{[]int{1024, 1024, 1024}, 255, 255, 255, 255},
		{[]int{-1024, -1024, -1024}, 255, 255, 255, 0},
		{[]int{1024, 1024, -1024}, 0, 0, 255, 0},
		{[]int{1024, -1024, 1024}, 255, 255, 1, 4},
		{[]int{1024, 0, 0}, 63, 255, 255, 252},
		{[]int{1024, 0, 0}, 0, 255, 255, 0},
	}
	for _, c := range cases {
		for row := range 3 {
			m := color(slices.Repeat([]int{77}, 9), make([]int, 17))
			copy(m.Matrix[3*row:], c.weights)
			if got := impl.MixChannels(m, row, c.r, c.g, c.b); got != c.want {
				t.Errorf("with the weights %v in row %d, %d, %d and %d are mixed to %d; want %d", c.weights, row, c.r, c.g, c.b, got, c.want)
			}
		}
	}
}

func TestMixChannelsIsTheRoundedSum(t *testing.T) {
	for _, matrix := range someMatrices() {
		m := color(matrix, otherCurves()[0])
		for row := range 3 {
			for _, r := range someChannels() {
				for _, g := range someChannels() {
					for _, b := range someChannels() {
						if got, want := impl.MixChannels(m, row, r, g, b), mixedChannel(m, row, r, g, b); got != want {
							t.Errorf("MixChannels(%v, %d, %d, %d, %d) = %d; want %d", m, row, r, g, b, got, want)
						}
					}
				}
			}
		}
	}
}

// TestMixChannelsRejectsInvalidArguments also tries maps that are wrong only in the curve or in
// another row.
func TestMixChannelsRejectsInvalidArguments(t *testing.T) {
	check := func(m impl.ColorMap, row int, c [3]int) {
		t.Helper()
		if got := impl.MixChannels(m, row, c[0], c[1], c[2]); got != -1 {
			t.Errorf("MixChannels(%v, %d, %d, %d, %d) = %d", m, row, c[0], c[1], c[2], got)
		}
	}
	for _, m := range invalidColors() {
		for row := -1; row <= 3; row++ {
			check(m, row, [3]int{0, 0, 0})
			check(m, row, [3]int{1, 128, 255})
			check(m, row, [3]int{1, 256, -1})
		}
	}
	for _, m := range someColors() {
		for _, row := range []int{-1, 3, -2, -3, 4, 9, 1 << 32, -1 << 32, 1 << 62, math.MaxInt, math.MinInt, math.MaxInt/3 + 1} {
			check(m, row, [3]int{0, 0, 0})
			check(m, row, [3]int{1, 128, 255})
		}
		for _, n := range notChannels() {
			for k := range 3 {
				for _, other := range []int{0, 128, 255, -1, 256} {
					c := [3]int{other, other, other}
					c[k] = n
					for row := -1; row <= 3; row++ {
						check(m, row, c)
					}
				}
			}
		}
	}
}

func TestCurveAt(t *testing.T) {
	cases := []struct {
		a, b int
		want [16]int
	}{
		{0, 16, [16]int{0, 1, 2, 3, 4, 5, 6, 7, 8, 9, 10, 11, 12, 13, 14, 15}},
		{5, 5, [16]int{5, 5, 5, 5, 5, 5, 5, 5, 5, 5, 5, 5, 5, 5, 5, 5}},
		{7, 8, [16]int{7, 7, 7, 7, 7, 7, 7, 7, 7, 7, 7, 7, 7, 7, 7, 7}},
		{8, 7, [16]int{8, 7, 7, 7, 7, 7, 7, 7, 7, 7, 7, 7, 7, 7, 7, 7}},
		{0, 3, [16]int{0, 0, 0, 0, 0, 0, 1, 1, 1, 1, 1, 2, 2, 2, 2, 2}},
		{3, 0, [16]int{3, 2, 2, 2, 2, 2, 1, 1, 1, 1, 1, 0, 0, 0, 0, 0}},
		{16, 0, [16]int{16, 15, 14, 13, 12, 11, 10, 9, 8, 7, 6, 5, 4, 3, 2, 1}},
		{0, 256, [16]int{0, 16, 32, 48, 64, 80, 96, 112, 128, 144, 160, 176, 192, 208, 224, 240}},
		{256, 0, [16]int{255, 240, 224, 208, 192, 176, 160, 144, 128, 112, 96, 80, 64, 48, 32, 16}},
		{256, 256, [16]int{255, 255, 255, 255, 255, 255, 255, 255, 255, 255, 255, 255, 255, 255, 255, 255}},
		{255, 256, [16]int{255, 255, 255, 255, 255, 255, 255, 255, 255, 255, 255, 255, 255, 255, 255, 255}},
		{256, 255, [16]int{255, 255, 255, 255, 255, 255, 255, 255, 255, 255, 255, 255, 255, 255, 255, 255}},
		{256, 254, [16]int{255, 255, 255, 255, 255, 255, 255, 255, 255, 254, 254, 254, 254, 254, 254, 254}},
		{100, 121, [16]int{100, 101, 102, 103, 105, 106, 107, 109, 110, 111, 113, 114, 115, 117, 118, 119}},
		{121, 100, [16]int{121, 119, 118, 117, 115, 114, 113, 111, 110, 109, 107, 106, 105, 103, 102, 101}},
	}
	for _, c := range cases {
		for k := range 16 {
			m := color(make([]int, 9), slices.Repeat([]int{200}, 17))
			m.Curve[k], m.Curve[k+1] = c.a, c.b
			for rest, want := range c.want {
				if got := impl.CurveAt(m, 16*k+rest); got != want {
					t.Errorf("from %d at %d to %d, the curve is %d at %d; want %d", c.a, 16*k, c.b, got, 16*k+rest, want)
				}
			}
		}
	}
}

// TestCurveAtIsLinearBetweenItsPoints also checks the points themselves, of which the last one is
// not reached by a channel.
func TestCurveAtIsLinearBetweenItsPoints(t *testing.T) {
	for _, m := range someColors() {
		for v := range 256 {
			got := impl.CurveAt(m, v)
			if want := curvedChannel(m, v); got != want {
				t.Errorf("CurveAt(%v, %d) = %d; want %d", m, v, got, want)
			}
			if v%16 == 0 && got != min(m.Curve[v/16], 255) {
				t.Errorf("CurveAt(%v, %d) = %d", m, v, got)
			}
		}
	}
}

func TestCurveAtRejectsInvalidArguments(t *testing.T) {
	for _, m := range invalidColors() {
		for _, v := range append(someChannels(), notChannels()...) {
			if got := impl.CurveAt(m, v); got != -1 {
				t.Errorf("CurveAt(%v, %d) = %d", m, v, got)
			}
		}
	}
	for _, m := range someColors() {
		for _, v := range append(notChannels(), 257, 271, 272, -16, -15, -17) {
			if got := impl.CurveAt(m, v); got != -1 {
				t.Errorf("CurveAt(%v, %d) = %d", m, v, got)
			}
		}
	}
}

func TestColorPixel(t *testing.T) {
	inverted := plainCurve()
	slices.Reverse(inverted)
	cases := []struct {
		name          string
		matrix, curve []int
		p, want       int
	}{
		{"identity", plainMatrix(), plainCurve(), 0x12345678, 0x12345678},
		{"red from green, green from blue, blue from red", []int{0, 256, 0, 0, 0, 256, 256, 0, 0}, plainCurve(), 0x12345678, 0x12567834},
		{"all from blue", []int{0, 0, 256, 0, 0, 256, 0, 0, 256}, plainCurve(), 0xff010203, 0xff030303},
		{"mean", slices.Repeat([]int{85, 86, 85}, 3), plainCurve(), 0x40ffffff, 0x40ffffff},
		{"half red", []int{128, 0, 0, 0, 256, 0, 0, 0, 256}, plainCurve(), 0xffc81008, 0xff641008},
		{"twice as bright", []int{512, 0, 0, 0, 512, 0, 0, 0, 512}, plainCurve(), 0x017f8001, 0x01feff02},
		{"red without green", []int{256, -256, 0, 0, 256, 0, 0, 0, 256}, plainCurve(), 0x00102030, 0x00002030},
		{"nothing", make([]int, 9), plainCurve(), 0xffffffff, 0xff000000},
		{"nothing, brightened", make([]int, 9), slices.Repeat([]int{9}, 17), 0xfe123456, 0xfe090909},
		{"inverted", plainMatrix(), inverted, 0x8000ff10, 0x80ff01f0},
		{"mixed before the curve", []int{128, 128, 0, 0, 128, 128, 128, 0, 128}, []int{0, 0, 0, 0, 0, 0, 0, 0, 256, 256, 256, 256, 256, 256, 256, 256, 256}, 0x55ff0080, 0x55ff00ff},
	}
	for _, c := range cases {
		if got := impl.ColorPixel(color(c.matrix, c.curve), c.p); got != c.want {
			t.Errorf("%s: %#08x becomes %#08x; want %#08x", c.name, c.p, got, c.want)
		}
	}
}

func TestColorPixelIsMatrixAndCurveOfEachChannel(t *testing.T) {
	for _, m := range someColors() {
		for _, p := range append(somePixels(), 0x01c02040, 0xff20c040, 0x7f2040c0) {
			got := impl.ColorPixel(m, p)
			if want := coloredPixel(m, p); got != want {
				t.Errorf("ColorPixel(%v, %#x) = %#x; want %#x", m, p, got, want)
			}
			r, g, b := impl.ChannelOf(p, 1), impl.ChannelOf(p, 2), impl.ChannelOf(p, 3)
			for row := range 3 {
				if want := impl.CurveAt(m, impl.MixChannels(m, row, r, g, b)); impl.ChannelOf(got, row+1) != want {
					t.Errorf("ColorPixel(%v, %#x) = %#x; want the channel %d to be %d", m, p, got, row+1, want)
				}
			}
		}
	}
}

func TestColorPixelKeepsAlpha(t *testing.T) {
	for _, m := range someColors() {
		for a := range 256 {
			p := impl.MakePixel(a, 255-a, a, 128)
			if got := impl.ColorPixel(m, p); impl.ChannelOf(got, 0) != a {
				t.Errorf("ColorPixel(%v, %#x) = %#x", m, p, got)
			}
		}
	}
}

func TestColorPixelRejectsInvalidArguments(t *testing.T) {
	for _, m := range invalidColors() {
		for _, p := range append(somePixels(), notPixels()...) {
			if got := impl.ColorPixel(m, p); got != -1 {
				t.Errorf("ColorPixel(%v, %d) = %d", m, p, got)
			}
		}
	}
	for _, m := range someColors() {
		for _, p := range notPixels() {
			if got := impl.ColorPixel(m, p); got != -1 {
				t.Errorf("ColorPixel(%v, %d) = %d", m, p, got)
			}
		}
	}
}

func TestColorImage(t *testing.T) {
	for _, m := range someColors() {
		for _, size := range someSizes() {
			i := unlikePixels(size[0], size[1])
			want := drawnImage(i.W, i.H, func(x, y int) int { return coloredPixel(m, i.Data[y*i.W+x]) })
			if got := impl.ColorImage(m, i); !equalImages(got, want) || !impl.ImageOk(got) {
				t.Errorf("ColorImage(%v, %v) = %v; want %v", m, i, got, want)
			}
		}
	}
}

func TestColorImageRejectsInvalidArguments(t *testing.T) {
	check := func(m impl.ColorMap, i impl.Image) {
		t.Helper()
		if got := impl.ColorImage(m, i); !equalImages(got, impl.Image{}) {
			t.Errorf("ColorImage(%v, %v) = %v", m, i, got)
		}
	}
	for _, m := range invalidColors() {
		check(m, unlikePixels(3, 2))
		check(m, impl.Image{})
		check(m, image(1, 1, -1))
	}
	for _, m := range []impl.ColorMap{impl.IdentityColor(), someColors()[4], {}} {
		for _, i := range invalidImages() {
			check(m, i)
		}
	}
}

func TestIdentityChangesNoChannel(t *testing.T) {
	m := impl.IdentityColor()
	for v := range 256 {
		if got := impl.CurveAt(m, v); got != v {
			t.Errorf("CurveAt of the identity at %d is %d", v, got)
		}
		for _, other := range someChannels() {
			got := [3]int{impl.MixChannels(m, 0, v, other, 255-other), impl.MixChannels(m, 1, other, v, 255-other), impl.MixChannels(m, 2, other, 255-other, v)}
			if got != [3]int{v, v, v} {
				t.Errorf("MixChannels of the identity makes %v of the channel %d beside %d and %d", got, v, other, 255-other)
			}
		}
	}
}

// TestIdentityChangesNoPixel tries each value of each channel, and pixels with unlike channels.
func TestIdentityChangesNoPixel(t *testing.T) {
	m := impl.IdentityColor()
	pixels := somePixels()
	for v := range 256 {
		pixels = append(pixels, v<<24, v<<16, v<<8, v, highestPixel-v<<24, highestPixel-v<<16, highestPixel-v<<8, highestPixel-v, v<<24|(255-v)<<16|(v+85)%256<<8|(v^0x5a))
	}
	for _, p := range pixels {
		if got := impl.ColorPixel(m, p); got != p {
			t.Errorf("the identity makes %#x of %#x", got, p)
		}
	}
}

func TestIdentityChangesNoImage(t *testing.T) {
	forAllSides(func(w, h int) {
		for _, i := range []impl.Image{unlikePixels(w, h), invertedPixels(unlikePixels(w, h))} {
			if got := impl.ColorImage(impl.IdentityColor(), i); !equalImages(got, i) {
				t.Errorf("the identity makes %v of %v", got, i)
			}
		}
	})
}

// TestAscendingCurvesKeepTheOrder compares neighbours, so that all values are in order; where a
// curve rises by at least 16 from a point to the next one, no two values between become equal.
func TestAscendingCurvesKeepTheOrder(t *testing.T) {
	for _, curve := range risingCurves() {
		m := color(someMatrices()[6], curve)
		for v := 1; v < 256; v++ {
			before, after := impl.CurveAt(m, v-1), impl.CurveAt(m, v)
			k := (v - 1) / 16
			steep := curve[k+1]-curve[k] >= 16
			if before > after || steep && before == after && after < 255 || before < 0 || after > 255 {
				t.Errorf("the curve %v is %d at %d and %d at %d", curve, before, v-1, after, v)
			}
		}
	}
}

// TestAscendingCurvesKeepTheOrderOfPixels makes one channel of a pixel brighter, and compares all
// channels before and after; no weight is negative.
func TestAscendingCurvesKeepTheOrderOfPixels(t *testing.T) {
	for _, matrix := range [][]int{plainMatrix(), {85, 86, 85, 77, 151, 28, 128, 0, 128}, {1024, 3, 0, 0, 0, 1, 256, 256, 256}} {
		for _, curve := range risingCurves() {
			m := color(matrix, curve)
			for k := 1; k < 4; k++ {
				last := [4]int{}
				for v := range 256 {
					c := [4]int{200, 40, 90, 160}
					c[k] = v
					now := digits(impl.ColorPixel(m, impl.MakePixel(c[0], c[1], c[2], c[3])))
					if now[1] < last[1] || now[2] < last[2] || now[3] < last[3] {
						t.Errorf("with %v, the channels %v become %v, after %v", m, c, now, last)
					}
					last = now
				}
			}
		}
	}
}

// TestAscendingCurvesKeepTheOrderOfChannels compares the channels of one pixel with each other.
func TestAscendingCurvesKeepTheOrderOfChannels(t *testing.T) {
	for _, curve := range risingCurves() {
		m := color(plainMatrix(), curve)
		for _, low := range someChannels() {
			for between := low; between < 256; between += 5 {
				for high := between; high < 256; high += 7 {
					got := digits(impl.ColorPixel(m, impl.MakePixel(0, high, low, between)))
					if got[2] > got[3] || got[3] > got[1] {
						t.Errorf("the curve %v makes %v of %d, %d and %d", curve, got, high, low, between)
					}
				}
			}
		}
	}
}

func TestDescendingCurvesTurnTheOrder(t *testing.T) {
	for _, curve := range risingCurves() {
		slices.Reverse(curve)
		m := color(plainMatrix(), curve)
		for v := 1; v < 256; v++ {
			if before, after := impl.CurveAt(m, v-1), impl.CurveAt(m, v); before < after {
				t.Errorf("the curve %v is %d at %d and %d at %d", curve, before, v-1, after, v)
			}
		}
	}
}

// TestIdentityColorGivesNewMemory fills one result, and appends to its slices.
func TestIdentityColorGivesNewMemory(t *testing.T) {
	m, other := impl.IdentityColor(), impl.IdentityColor()
	for k := range m.Matrix {
		m.Matrix[k] = -5
	}
	m.Matrix = append(m.Matrix, -6)
	if !slices.Equal(m.Curve, plainCurve()) {
		t.Errorf("a change of Matrix is seen in Curve: %v", m.Curve)
	}
	for k := range m.Curve {
		m.Curve[k] = -7
	}
	_ = append(m.Curve, -8)
	if !slices.Equal(m.Matrix, append(slices.Repeat([]int{-5}, 9), -6)) {
		t.Errorf("a change of Curve is seen in Matrix: %v", m.Matrix)
	}
	want := color(plainMatrix(), plainCurve())
	if !equalColors(other, want) || !equalColors(impl.IdentityColor(), want) {
		t.Errorf("a change of one identity is seen in %v or %v", other, impl.IdentityColor())
	}
}

// TestColorsShareNoMemory calls each function with arguments in front of spare capacity that holds
// other numbers, and changes the images that it returns.
func TestColorsShareNoMemory(t *testing.T) {
	memory := append(append(append([]int{7, 8}, plainCurve()...), someMatrices()[6]...), 1, 2, 3, 4, 5, 6, 7, 8, 9)
	before := slices.Clone(memory)
	m := impl.ColorMap{Matrix: memory[19:28], Curve: memory[2:19]}
	i := impl.Image{W: 3, H: 2, Data: memory[28:34]}
	want := impl.ColorImage(m, i)
	impl.ColorOk(m)
	impl.MixChannels(m, 1, 2, 3, 4)
	impl.CurveAt(m, 99)
	impl.ColorPixel(m, 0xff123456)
	for _, changed := range []impl.Image{impl.ColorImage(m, i), impl.ColorImage(impl.IdentityColor(), i), impl.ColorImage(m, impl.Image{W: 4, H: 4, Data: memory[28:34]})} {
		for k := range changed.Data {
			changed.Data[k] = -5
		}
		_ = append(changed.Data, -6)
	}
	if !slices.Equal(memory, before) {
		t.Errorf("the arguments became %v", memory)
	}
	if got := impl.ColorImage(m, i); !equalImages(got, want) || slices.Contains(got.Data, -5) {
		t.Errorf("a change of a result is seen in %v", got)
	}
}
