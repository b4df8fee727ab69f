package tests

import (
	"math"
	"slices"
	"testing"

	"loop.example/g03313/impl"
)

// highestPixel is written out, so that a wrong limit of the program is found.
const highestPixel = 4294967295

// notChannels are numbers just outside of the range of a channel and far from it.
func notChannels() []int {
	return []int{-1, 256, -255, -256, 511, 512, 1 << 16, 1 << 32, 1<<32 + 5, -1 << 32, math.MaxInt, math.MinInt, math.MinInt + 255}
}

// notPixels are numbers just outside of the range of a pixel and far from it.
func notPixels() []int {
	return []int{-1, highestPixel + 1, -2, highestPixel + 2, -highestPixel, -highestPixel - 1, 1<<40 + 7, 1 << 62, math.MaxInt, math.MinInt, math.MinInt + 1}
}

// someChannels are numbers at and near the limits of a channel and its bits, and between.
func someChannels() []int {
	return []int{0, 1, 2, 63, 100, 126, 127, 128, 129, 200, 253, 254, 255}
}

// somePixels are pixels with alpha at its limits and between, and with unlike channels.
func somePixels() []int {
	list := []int{0, highestPixel, 1, 1 << 31, 1<<31 - 1, 0x01020304, 0xff000000, 0x00ffffff, 0x80ff00ff, 0x7f00ff00, 0xfe0180c8}
	for _, a := range someChannels() {
		list = append(list, a<<24|0x0a80ff, a<<24|0xff7f00, a<<24|0x6464c8)
	}
	return list
}

// nearest returns the whole number nearest to a*b/255, found by search.
func nearest(a, b int) int {
	n := 0
	for 255*(2*n+1) < 2*a*b {
		n++
	}
	return n
}

// digits returns the four channels of a pixel, as digits of a number with base 256.
func digits(p int) [4]int {
	return [4]int{p / 256 / 256 / 256, p / 256 / 256 % 256, p / 256 % 256, p % 256}
}

// pixelOver finds Over by its definition.
func pixelOver(top, bottom int) int {
	t, b := digits(top), digits(bottom)
	p := 255
	for k := 1; k < 4; k++ {
		p = p*256 + nearest(t[k], t[0]) + nearest(b[k], 255-t[0])
	}
	return p
}

func TestMakePixel(t *testing.T) {
	cases := []struct{ a, r, g, b, want int }{
		{0, 0, 0, 0, 0}, {255, 255, 255, 255, highestPixel}, {255, 0, 0, 0, 4278190080}, {0, 255, 0, 0, 16711680},
		{0, 0, 255, 0, 65280}, {0, 0, 0, 255, 255}, {1, 0, 0, 0, 16777216}, {0, 1, 0, 0, 65536}, {0, 0, 1, 0, 256},
		{0, 0, 0, 1, 1}, {1, 2, 3, 4, 0x01020304}, {128, 255, 0, 10, 2164195338}, {255, 10, 20, 30, 0xff0a141e},
	}
	for _, c := range cases {
		if got := impl.MakePixel(c.a, c.r, c.g, c.b); got != c.want {
			t.Errorf("MakePixel(%d, %d, %d, %d) = %d; want %d", c.a, c.r, c.g, c.b, got, c.want)
		}
	}
}

func TestMakePixelRejectsWhatIsNoChannel(t *testing.T) {
	for k := range 4 {
		for _, n := range notChannels() {
			for _, other := range []int{0, 7, 255, -1, 256} {
				c := [4]int{other, other, other, other}
				c[k] = n
				if got := impl.MakePixel(c[0], c[1], c[2], c[3]); got != -1 {
					t.Errorf("MakePixel%v = %d", c, got)
				}
			}
		}
	}
}

func TestChannelsComeBackFromTheirPixel(t *testing.T) {
	for _, a := range someChannels() {
		for _, r := range someChannels() {
			for _, g := range someChannels() {
				for _, b := range someChannels() {
					p := impl.MakePixel(a, r, g, b)
					got := [4]int{impl.ChannelOf(p, 0), impl.ChannelOf(p, 1), impl.ChannelOf(p, 2), impl.ChannelOf(p, 3)}
					if got != [4]int{a, r, g, b} {
						t.Fatalf("the channels of MakePixel(%d, %d, %d, %d) are %v", a, r, g, b, got)
					}
				}
			}
		}
	}
	for _, p := range somePixels() {
		if got := impl.MakePixel(impl.ChannelOf(p, 0), impl.ChannelOf(p, 1), impl.ChannelOf(p, 2), impl.ChannelOf(p, 3)); got != p {
			t.Errorf("the pixel with the channels of %d is %d", p, got)
		}
	}
}

func TestChannelOf(t *testing.T) {
	cases := []struct{ p, k, want int }{
		{0x01020304, 0, 1}, {0x01020304, 1, 2}, {0x01020304, 2, 3}, {0x01020304, 3, 4},
		{0, 0, 0}, {0, 3, 0}, {highestPixel, 0, 255}, {highestPixel, 1, 255}, {highestPixel, 2, 255}, {highestPixel, 3, 255},
		{0xfe00807f, 0, 254}, {0xfe00807f, 1, 0}, {0xfe00807f, 2, 128}, {0xfe00807f, 3, 127},
	}
	for _, c := range cases {
		if got := impl.ChannelOf(c.p, c.k); got != c.want {
			t.Errorf("ChannelOf(%d, %d) = %d; want %d", c.p, c.k, got, c.want)
		}
	}
}

func TestChannelOfRejectsInvalidArguments(t *testing.T) {
	notPlaces := []int{-1, 4, -4, 5, 255, math.MaxInt, math.MinInt}
	for _, k := range notPlaces {
		for _, p := range append(notPixels(), 0, 0x01020304, highestPixel) {
			if got := impl.ChannelOf(p, k); got != -1 {
				t.Errorf("ChannelOf(%d, %d) = %d", p, k, got)
			}
		}
	}
	for _, p := range notPixels() {
		for k := range 4 {
			if got := impl.ChannelOf(p, k); got != -1 {
				t.Errorf("ChannelOf(%d, %d) = %d", p, k, got)
			}
		}
	}
}

func TestPartIsTheNearestNumber(t *testing.T) {
	for a := range 256 {
		for b := range 256 {
			if got, want := impl.Part(a, b), nearest(a, b); got != want {
				t.Errorf("Part(%d, %d) = %d; want %d", a, b, got, want)
			}
		}
		if impl.Part(a, 255) != a || impl.Part(255, a) != a || impl.Part(a, 0) != 0 || impl.Part(0, a) != 0 {
			t.Errorf("the whole of %d is %d, and no part of it is %d", a, impl.Part(a, 255), impl.Part(a, 0))
		}
	}
}

func TestPartRejectsWhatIsNoChannel(t *testing.T) {
	for _, n := range notChannels() {
		for _, other := range append(notChannels(), 0, 1, 128, 255) {
			if impl.Part(n, other) != -1 || impl.Part(other, n) != -1 {
				t.Errorf("Part of %d and %d is %d and %d", n, other, impl.Part(n, other), impl.Part(other, n))
			}
		}
	}
}

func TestOver(t *testing.T) {
	cases := []struct{ top, bottom, want int }{
		{0x80ff000a, 0xff0000ff, 0xff800084}, {0xff0000ff, 0x80ff000a, 0xff0000ff},
		{0x80ffffff, 0xff000000, 0xff808080}, {0x7fffffff, 0xff000000, 0xff7f7f7f}, {0x01ff0080, 0xff00ff80, 0xff01fe80},
		{0, 0, 0xff000000}, {0, highestPixel, highestPixel}, {highestPixel, 0, highestPixel},
		{0x00ffffff, 0, 0xff000000}, {0x00123456, 0x00abcdef, 0xffabcdef}, {0xff123456, 0x00abcdef, 0xff123456},
		{0x40c80a64, 0xff0ac832, 0xff39993e},
	}
	for _, c := range cases {
		if got := impl.Over(c.top, c.bottom); got != c.want {
			t.Errorf("Over(%#x, %#x) = %#x; want %#x", c.top, c.bottom, got, c.want)
		}
	}
	for _, top := range somePixels() {
		for _, bottom := range somePixels() {
			if got, want := impl.Over(top, bottom), pixelOver(top, bottom); got != want {
				t.Errorf("Over(%#x, %#x) = %#x; want %#x", top, bottom, got, want)
			}
		}
	}
}

// TestOpaqueHidesAndTransparentShows also gives the bottom each alpha, which makes no difference.
func TestOpaqueHidesAndTransparentShows(t *testing.T) {
	for _, top := range somePixels() {
		for _, bottom := range somePixels() {
			for _, alpha := range someChannels() {
				below := alpha<<24 | bottom&0xffffff
				if opaque := 0xff000000 | top; impl.Over(opaque, below) != opaque {
					t.Errorf("Over(%#x, %#x) = %#x", opaque, below, impl.Over(opaque, below))
				}
				if unseen := top & 0xffffff; impl.Over(unseen, below) != 0xff000000|below {
					t.Errorf("Over(%#x, %#x) = %#x", unseen, below, impl.Over(unseen, below))
				}
				if impl.Over(top, below) != impl.Over(top, bottom) {
					t.Errorf("Over(%#x, %#x) = %#x; the alpha of the bottom matters", top, below, impl.Over(top, below))
				}
			}
		}
	}
}

// TestOverLiesBetween tries each alpha with each pair of channels of a step, as red, green and
// blue in turn, so that a channel that runs over into its neighbor is found.
func TestOverLiesBetween(t *testing.T) {
	const step = 3 // divides 255, so that both limits are tried
	for alpha := range 256 {
		for top := 0; top <= 255; top += step {
			for bottom := 0; bottom <= 255; bottom += step {
				upper, lower := [4]int{alpha, top, bottom, top}, [4]int{255, bottom, top, top}
				p := impl.Over(impl.MakePixel(alpha, top, bottom, top), impl.MakePixel(255, bottom, top, top))
				for k := range 4 {
					if k == 0 && impl.ChannelOf(p, 0) != 255 {
						t.Fatalf("a pixel of alpha %d over an opaque one is %#x", alpha, p)
					}
					if n := impl.ChannelOf(p, k); k > 0 && (n < min(upper[k], lower[k]) || n > max(upper[k], lower[k])) {
						t.Fatalf("channel %d of %v over %v is %d", k, upper, lower, n)
					}
				}
			}
		}
	}
}

func TestMoreAlphaShowsMore(t *testing.T) {
	for _, top := range someChannels() {
		for _, bottom := range someChannels() {
			last := bottom
			for alpha := range 256 {
				n := impl.ChannelOf(impl.Over(impl.MakePixel(alpha, 0, top, 0), impl.MakePixel(255, 9, bottom, 9)), 2)
				// Each of the two parts is rounded, so that a step back of one is possible.
				if top >= bottom && n < last-1 || top <= bottom && n > last+1 {
					t.Errorf("%d over %d is %d with alpha %d, and was %d", top, bottom, n, alpha, last)
				}
				last = n
			}
		}
	}
}

func TestFade(t *testing.T) {
	cases := []struct{ p, alpha, want int }{
		{0xff0000ff, 128, 0x800000ff}, {0x80123456, 128, 0x40123456}, {0x81abcdef, 127, 0x40abcdef},
		{0xff123456, 255, 0xff123456}, {0xff123456, 0, 0x00123456}, {0x00123456, 255, 0x00123456}, {0x00123456, 0, 0x00123456},
		{0, 0, 0}, {0, 255, 0}, {highestPixel, 255, highestPixel}, {highestPixel, 0, 0x00ffffff}, {highestPixel, 1, 0x01ffffff},
		{0x01ffffff, 127, 0x00ffffff}, {0x01ffffff, 128, 0x01ffffff},
	}
	for _, c := range cases {
		if got := impl.Fade(c.p, c.alpha); got != c.want {
			t.Errorf("Fade(%#x, %d) = %#x; want %#x", c.p, c.alpha, got, c.want)
		}
	}
	for _, p := range somePixels() {
		for alpha := range 256 {
			if got, want := impl.Fade(p, alpha), nearest(digits(p)[0], alpha)<<24|p&0xffffff; got != want {
				t.Errorf("Fade(%#x, %d) = %#x; want %#x", p, alpha, got, want)
			}
		}
	}
}

func TestOverAndFadeRejectInvalidArguments(t *testing.T) {
	pixels := append(notPixels(), somePixels()...)
	for _, n := range notPixels() {
		for _, p := range pixels {
			if impl.Over(n, p) != -1 || impl.Over(p, n) != -1 {
				t.Errorf("Over of %d and %d is %d and %d", n, p, impl.Over(n, p), impl.Over(p, n))
			}
		}
		for _, alpha := range append(notChannels(), 0, 128, 255) {
			if got := impl.Fade(n, alpha); got != -1 {
				t.Errorf("Fade(%d, %d) = %d", n, alpha, got)
			}
		}
	}
	for _, alpha := range notChannels() {
		for _, p := range pixels {
			if got := impl.Fade(p, alpha); got != -1 {
				t.Errorf("Fade(%d, %d) = %d", p, alpha, got)
			}
		}
	}
}

func TestBlend(t *testing.T) {
	const red, green, half = 0xffff0000, 0xff00ff00, 0x800000ff
	cases := []struct {
		list         []int
		bottom, want int
	}{
		{nil, red, red}, {[]int{}, half, half}, {nil, 0, 0}, {[]int{}, highestPixel, highestPixel},
		{[]int{green}, red, green}, {[]int{half}, red, 0xff7f0080}, {[]int{0}, red, red}, {[]int{0}, 0, 0xff000000},
		{[]int{half, green}, red, green}, {[]int{green, half}, red, 0xff007f80}, {[]int{half, half}, red, 0xff3f00c0},
		{[]int{0x80ff0000, 0x8000ff00, half}, highestPixel, 0xff3f5f9f}, {[]int{half, 0, 0x00ffffff}, red, 0xff7f0080},
	}
	for _, c := range cases {
		if got := impl.Blend(c.list, c.bottom); got != c.want {
			t.Errorf("Blend(%#x, %#x) = %#x; want %#x", c.list, c.bottom, got, c.want)
		}
	}
}

// TestBlendIsOverInOrder also checks that everything below an opaque pixel is hidden, and that a
// list can be blended in two parts.
func TestBlendIsOverInOrder(t *testing.T) {
	list := somePixels()
	want := 0x12345678
	for i, p := range list {
		want = pixelOver(p, want)
		if got := impl.Blend(list[:i+1], 0x12345678); got != want {
			t.Errorf("Blend(%#x) = %#x; want %#x", list[:i+1], got, want)
		}
		if got := impl.Blend(list[:i+1], impl.Blend(nil, 0x12345678)); got != want {
			t.Errorf("Blend(%#x) over an empty blend is %#x; want %#x", list[:i+1], got, want)
		}
		if whole, parts := impl.Blend(list, 0), impl.Blend(list[i:], impl.Blend(list[:i], 0)); whole != parts {
			t.Errorf("Blend(%#x) is %#x; in two parts at %d it is %#x", list, whole, i, parts)
		}
		if p>>24 == 255 && want != p {
			t.Errorf("Blend(%#x) = %#x; the opaque pixel does not hide", list[:i+1], want)
		}
	}
}

func TestBlendRejectsWhatIsNoPixel(t *testing.T) {
	valid := []int{0xff112233, 0, 0x80ffffff, highestPixel, 0x40102030}
	for _, n := range notPixels() {
		for i := range len(valid) + 1 {
			if list := slices.Insert(slices.Clone(valid), i, n); impl.Blend(list, 0xff000000) != -1 {
				t.Errorf("Blend(%d) = %d", list, impl.Blend(list, 0xff000000))
			}
		}
		for _, list := range [][]int{nil, {}, {n}, {0xff000000}, valid} {
			if got := impl.Blend(list, n); got != -1 {
				t.Errorf("Blend(%d, %d) = %d", list, n, got)
			}
		}
		if got := impl.Blend([]int{n}, 0); got != -1 {
			t.Errorf("Blend(%d, 0) = %d", n, got)
		}
	}
}

func TestBlendLeavesItsList(t *testing.T) {
	memory := somePixels()
	before := slices.Clone(memory)
	impl.Blend(memory[:5], 0xff102030)
	if !slices.Equal(memory, before) {
		t.Errorf("the list is %#x; it was %#x", memory, before)
	}
}
