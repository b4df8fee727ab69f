package tests

import (
	"math"
	"slices"
	"strconv"
	"strings"
	"testing"

	"loop.example/g03313/impl"
)

// These limits are written out, so that a wrong limit of the program is found.
const (
	mostSurfaces  = 6
	highestId     = 99
	greatestPlace = 32
)

func notIds() []int {
	return []int{0, 100, -1, 101, -99, 255, 1<<32 + 5, -1 << 32, math.MaxInt, math.MinInt}
}

func notSurfacePlaces() []int {
	return []int{-33, 33, -34, 34, 1000, -1000, 1<<32 + 5, -1 << 32, math.MaxInt, math.MinInt}
}

// notBacks are numbers that are no opaque pixels.
func notBacks() []int {
	return append(notPixels(), 0, 0x00ffffff, 0x01000000, 0x7f808080, 0x80000000, 0xfe000000, 0xfeffffff, 0x1ff000000, 0xff00000000)
}

// newSurface is the surface that EditAdd makes.
func newSurface(id, x, y int, buffer impl.Image) impl.Surface {
	return impl.Surface{Id: id, X: x, Y: y, Alpha: 255, Visible: true, Buffer: buffer}
}

// changedSurface returns a copy of a surface in which something is changed.
func changedSurface(s impl.Surface, change func(x *impl.Surface)) impl.Surface {
	s.Buffer.Data = slices.Clone(s.Buffer.Data)
	change(&s)
	return s
}

// changedScene returns a copy of a scene, with memory of its own, in which something is changed.
func changedScene(s impl.Scene, change func(x *impl.Scene)) impl.Scene {
	s.Surfaces = slices.Clone(s.Surfaces)
	for k, x := range s.Surfaces {
		s.Surfaces[k] = changedSurface(x, func(*impl.Surface) {})
	}
	change(&s)
	return s
}

func copyOfScene(s impl.Scene) impl.Scene {
	return changedScene(s, func(*impl.Scene) {})
}

// equalSurfaces compares all fields; a nil slice is an empty one.
func equalSurfaces(a, b impl.Surface) bool {
	return a.Id == b.Id && a.X == b.X && a.Y == b.Y && a.W == b.W && a.H == b.H && a.Alpha == b.Alpha &&
		a.Orient == b.Orient && a.Visible == b.Visible && equalImages(a.Buffer, b.Buffer)
}

func equalScenes(a, b impl.Scene) bool {
	return a.W == b.W && a.H == b.H && a.Back == b.Back && slices.EqualFunc(a.Surfaces, b.Surfaces, equalSurfaces)
}

// someSurfaces have unlike Ids and numbers at the limits of their ranges and between.
func someSurfaces() []impl.Surface {
	return []impl.Surface{
		newSurface(1, 0, 0, image(1, 1, 0xff102030)),
		{Id: 99, X: -32, Y: 32, W: 16, H: 16, Alpha: 0, Orient: 7, Visible: true, Buffer: unlikePixels(16, 16)},
		{Id: 2, X: 32, Y: -32, W: 1, H: 1, Alpha: 255, Orient: 4, Buffer: impl.NewImage(16, 1, 0xffff0000)},
		{Id: 50, X: 3, Y: 4, W: 1, H: 16, Alpha: 1, Orient: 1, Visible: true, Buffer: unlikePixels(1, 16)},
		{Id: 98, X: -1, Y: 1, W: 16, H: 1, Alpha: 254, Orient: 3, Visible: true, Buffer: invertedPixels(unlikePixels(3, 2))},
		{Id: 7, X: 15, Y: -15, Alpha: 128, Orient: 5, Visible: true, Buffer: unlikePixels(7, 11)},
		{Id: 30, X: 5, Y: 5, W: 9, H: 7, Alpha: 255, Orient: 2, Visible: true, Buffer: impl.NewImage(4, 4, highestPixel)},
		{Id: 31, X: -7, Y: -9, Alpha: 255, Orient: 6, Buffer: unlikePixels(2, 5)},
	}
}

// wrongSurfaces have one field, or a size, that is not valid, some of them in a hidden surface.
func wrongSurfaces() []impl.Surface {
	var list []impl.Surface
	wrong := func(change func(x *impl.Surface)) {
		all := someSurfaces()
		list = append(list, changedSurface(all[len(list)%len(all)], change))
	}
	for _, n := range notIds() {
		wrong(func(x *impl.Surface) { x.Id = n })
	}
	for _, n := range notSurfacePlaces() {
		wrong(func(x *impl.Surface) { x.X = n })
		wrong(func(x *impl.Surface) { x.Y = n })
	}
	for _, n := range notSides() {
		for _, other := range []int{1, 2, 16, n, 0, 17, -1} {
			if n != 0 || other != 0 {
				wrong(func(x *impl.Surface) { x.W, x.H = n, other })
				wrong(func(x *impl.Surface) { x.W, x.H = other, n })
			}
		}
	}
	for _, n := range notChannels() {
		wrong(func(x *impl.Surface) { x.Alpha = n })
	}
	for _, n := range notOrientations() {
		wrong(func(x *impl.Surface) { x.Orient = n })
	}
	for _, i := range invalidImages() {
		wrong(func(x *impl.Surface) { x.Buffer = i })
	}
	return append(list, impl.Surface{}, impl.Surface{Id: 1, Alpha: 255, Visible: true})
}

// fewWrongSurfaces have one wrong field each.
func fewWrongSurfaces() []impl.Surface {
	s := newSurface(60, 1, 1, image(2, 1, 5, 6))
	return []impl.Surface{
		changedSurface(s, func(x *impl.Surface) { x.Id = 0 }),
		changedSurface(s, func(x *impl.Surface) { x.Id = 100 }),
		changedSurface(s, func(x *impl.Surface) { x.X = 33 }),
		changedSurface(s, func(x *impl.Surface) { x.Y = -33 }),
		changedSurface(s, func(x *impl.Surface) { x.W = 3 }),
		changedSurface(s, func(x *impl.Surface) { x.H = 3 }),
		changedSurface(s, func(x *impl.Surface) { x.Alpha = 256 }),
		changedSurface(s, func(x *impl.Surface) { x.Orient = 8 }),
		changedSurface(s, func(x *impl.Surface) { x.Buffer = impl.Image{} }),
		changedSurface(s, func(x *impl.Surface) { x.Buffer.Data[1] = -1 }),
	}
}

// scene writes a scene of 5 by 4 pixels on one line.
func scene(surfaces ...impl.Surface) impl.Scene {
	return impl.Scene{W: 5, H: 4, Back: 0xff405060, Surfaces: surfaces}
}

// someScenes have no surfaces, some, and as many as possible.
func someScenes() []impl.Scene {
	all := someSurfaces()
	list := []impl.Scene{
		{W: 1, H: 1, Back: 0xff000000}, {W: 16, H: 16, Back: highestPixel}, {W: 16, H: 1, Back: 0xff123456, Surfaces: all[:1]},
		{W: 1, H: 16, Back: 0xff808080, Surfaces: all[1:2]},
	}
	for n := range mostSurfaces + 1 {
		list = append(list, scene(all[:n]...), scene(all[len(all)-n:]...))
	}
	for k, s := range list {
		list[k] = copyOfScene(s)
	}
	return list
}

// crowdedScene has n valid surfaces with unlike Ids.
func crowdedScene(n int) impl.Scene {
	s := scene()
	for k := range n {
		s.Surfaces = append(s.Surfaces, newSurface(k+10, k, 2*k, image(1, 1, 0xff000000+k)))
	}
	return s
}

// wrongScenes have a size, a Back or a number of surfaces that is not valid, a wrong surface, or
// two surfaces with the same Id.
func wrongScenes() []impl.Scene {
	list := []impl.Scene{{}, crowdedScene(mostSurfaces + 1), crowdedScene(mostSurfaces + 2), crowdedScene(90)}
	for _, n := range notSides() {
		for _, other := range []int{1, 2, 16, n, 0, 17, -1} {
			list = append(list, changedScene(crowdedScene(2), func(x *impl.Scene) { x.W, x.H = n, other }))
			list = append(list, changedScene(crowdedScene(2), func(x *impl.Scene) { x.W, x.H = other, n }))
		}
	}
	for _, p := range notBacks() {
		list = append(list, changedScene(crowdedScene(2), func(x *impl.Scene) { x.Back = p }))
	}
	for n := 1; n <= mostSurfaces; n++ {
		for k := range n {
			for _, wrong := range fewWrongSurfaces() {
				list = append(list, changedScene(crowdedScene(n), func(x *impl.Scene) { x.Surfaces[k] = wrong }))
			}
			for other := range k {
				list = append(list, changedScene(crowdedScene(n), func(x *impl.Scene) { x.Surfaces[k].Id = x.Surfaces[other].Id }))
			}
		}
	}
	return list
}

// textOfIds writes the Ids of the surfaces of a scene from the lowest to the highest.
func textOfIds(s impl.Scene) string {
	var ids []string
	for _, x := range s.Surfaces {
		ids = append(ids, strconv.Itoa(x.Id))
	}
	return strings.Join(ids, " ")
}

// fadedPixel finds Fade by its definition.
func fadedPixel(p, alpha int) int {
	c := digits(p)
	return ((nearest(c[0], alpha)*256+c[1])*256+c[2])*256 + c[3]
}

// surfacePicture finds PictureOf of a valid surface by its definition.
func surfacePicture(s impl.Surface) impl.Image {
	picture := orientedImage(s.Buffer, s.Orient)
	if s.W != 0 && s.H != 0 {
		picture = scaledImage(picture, s.W, s.H)
	}
	for k, p := range picture.Data {
		picture.Data[k] = fadedPixel(p, s.Alpha)
	}
	return picture
}

func TestKindsAndLimitsOfScenes(t *testing.T) {
	kinds := []int{impl.EditAdd, impl.EditRemove, impl.EditMove, impl.EditRaise, impl.EditLower, impl.EditBuffer, impl.EditAlpha, impl.EditOrient, impl.EditSize, impl.EditVisible, impl.EditBack}
	if !slices.Equal(kinds, []int{0, 1, 2, 3, 4, 5, 6, 7, 8, 9, 10}) || impl.MaxSurfaces != 6 {
		t.Errorf("the kinds are %v, and MaxSurfaces is %d", kinds, impl.MaxSurfaces)
	}
}

func TestSurfaceOk(t *testing.T) {
	for _, s := range someSurfaces() {
		for _, visible := range []bool{false, true} {
			s.Visible = visible
			if !impl.SurfaceOk(s) {
				t.Errorf("SurfaceOk(%v) is false", s)
			}
		}
	}
	for _, s := range wrongSurfaces() {
		for _, visible := range []bool{false, true} {
			s.Visible = visible
			if impl.SurfaceOk(s) {
				t.Errorf("SurfaceOk(%v) is true", s)
			}
		}
	}
}

// TestSurfaceOkInTheWholeRange tries all numbers of each range, and some outside of it.
func TestSurfaceOkInTheWholeRange(t *testing.T) {
	ranges := []struct {
		name      string
		low, high int
		set       func(x *impl.Surface, n int)
	}{
		{"Id", 1, highestId, func(x *impl.Surface, n int) { x.Id = n }},
		{"X", -greatestPlace, greatestPlace, func(x *impl.Surface, n int) { x.X = n }},
		{"Y", -greatestPlace, greatestPlace, func(x *impl.Surface, n int) { x.Y = n }},
		{"Alpha", 0, 255, func(x *impl.Surface, n int) { x.Alpha = n }},
		{"Orient", 0, orientationCount - 1, func(x *impl.Surface, n int) { x.Orient = n }},
	}
	for _, r := range ranges {
		for n := r.low - 5; n <= r.high+5; n++ {
			for _, s := range someSurfaces() {
				r.set(&s, n)
				if got, want := impl.SurfaceOk(s), r.low <= n && n <= r.high; got != want {
					t.Errorf("SurfaceOk(%v) is %v with %d as %s", s, got, n, r.name)
				}
			}
		}
	}
}

// TestSurfaceOkSizes tries all sizes, those that are 0 in one direction alone among them.
func TestSurfaceOkSizes(t *testing.T) {
	for w := -2; w <= screenSide+2; w++ {
		for h := -2; h <= screenSide+2; h++ {
			want := w == 0 && h == 0 || 1 <= w && w <= screenSide && 1 <= h && h <= screenSide
			for _, s := range someSurfaces() {
				s.W, s.H = w, h
				if got := impl.SurfaceOk(s); got != want {
					t.Errorf("SurfaceOk(%v) is %v", s, got)
				}
			}
		}
	}
}

func TestSceneOk(t *testing.T) {
	for _, s := range someScenes() {
		if !impl.SceneOk(s) {
			t.Errorf("SceneOk(%v) is false", s)
		}
	}
	for _, s := range wrongScenes() {
		if impl.SceneOk(s) {
			t.Errorf("SceneOk(%v) is true", s)
		}
	}
}

func TestSceneOkSizesAndBacks(t *testing.T) {
	for w := -2; w <= screenSide+2; w++ {
		for h := -2; h <= screenSide+2; h++ {
			want := 1 <= w && w <= screenSide && 1 <= h && h <= screenSide
			if got := impl.SceneOk(impl.Scene{W: w, H: h, Back: 0xff000000}); got != want {
				t.Errorf("for a scene of %d by %d pixels, SceneOk is %v", w, h, got)
			}
		}
	}
	for a := range 256 {
		for _, rest := range []int{0, 1, 0xffffff, 0x800000, 0x123456} {
			s := impl.Scene{W: 3, H: 2, Back: a<<24 | rest, Surfaces: crowdedScene(1).Surfaces}
			if got := impl.SceneOk(s); got != (a == 255) {
				t.Errorf("for a scene with the Back %#x, SceneOk is %v", s.Back, got)
			}
		}
	}
}

func TestSceneOkCountsSurfaces(t *testing.T) {
	for n := range 30 {
		if got := impl.SceneOk(crowdedScene(n)); got != (n <= mostSurfaces) {
			t.Errorf("for a scene with %d surfaces, SceneOk is %v", n, got)
		}
	}
}

func TestSceneOkChecksEachSurface(t *testing.T) {
	for n := 1; n <= mostSurfaces; n++ {
		for k := range n {
			for _, wrong := range wrongSurfaces() {
				s := crowdedScene(n)
				s.Surfaces[k] = wrong
				if impl.SceneOk(s) {
					t.Errorf("SceneOk is true with the surface %v at place %d of %d", wrong, k, n)
				}
			}
		}
	}
}

func TestPictureOfLetters(t *testing.T) {
	cases := []struct {
		rows         string
		orient, w, h int
		want         string
	}{
		{"abc/def", 0, 0, 0, "abc/def"},
		{"abc/def", 1, 0, 0, "da/eb/fc"},
		{"abc/def", 4, 0, 0, "cba/fed"},
		{"abc/def", 5, 0, 0, "fc/eb/da"},
		{"abc/def", 0, 3, 2, "abc/def"},
		{"abc/def", 0, 2, 3, "ab/ab/de"},
		{"abc/def", 1, 2, 3, "da/eb/fc"},
		{"abc/def", 1, 3, 2, "dda/eeb"},
		{"abc/def", 1, 4, 3, "ddaa/eebb/ffcc"},
		{"abc/def", 1, 1, 1, "d"},
		{"abc/def", 2, 1, 1, "f"},
		{"abc/def", 3, 2, 1, "cf"},
		{"abc/def", 6, 6, 2, "ddeeff/aabbcc"},
		{"abc/def", 7, 1, 6, "a/a/b/b/c/c"},
	}
	for _, c := range cases {
		s := impl.Surface{Id: 1, X: 3, Y: -3, W: c.w, H: c.h, Alpha: 200, Orient: c.orient, Buffer: writtenImage(c.rows)}
		for _, visible := range []bool{false, true} {
			s.Visible = visible
			if got := impl.PictureOf(s); !equalImages(got, writtenImage(c.want)) {
				t.Errorf("%s in orientation %d and the size %d by %d is %v; want %s", c.rows, c.orient, c.w, c.h, got, c.want)
			}
		}
	}
}

func TestPictureOfFades(t *testing.T) {
	cases := []struct {
		alpha int
		want  []int
	}{
		{255, []int{0xff010203, 0x80ff00ff, 0x00ffffff, 0x01808080}},
		{254, []int{0xfe010203, 0x7fff00ff, 0x00ffffff, 0x01808080}},
		{128, []int{0x80010203, 0x40ff00ff, 0x00ffffff, 0x01808080}},
		{127, []int{0x7f010203, 0x40ff00ff, 0x00ffffff, 0x00808080}},
		{1, []int{0x01010203, 0x01ff00ff, 0x00ffffff, 0x00808080}},
		{0, []int{0x00010203, 0x00ff00ff, 0x00ffffff, 0x00808080}},
	}
	for _, c := range cases {
		s := newSurface(4, 0, 0, image(2, 2, 0xff010203, 0x80ff00ff, 0x00ffffff, 0x01808080))
		s.Alpha = c.alpha
		if got := impl.PictureOf(s); !equalImages(got, image(2, 2, c.want...)) {
			t.Errorf("%v faded by %d is %v; want %v", s.Buffer, c.alpha, got, c.want)
		}
	}
}

// forSomeSurfaces calls a function with surfaces of many sizes in all orientations.
func forSomeSurfaces(check func(s impl.Surface)) {
	for _, size := range someSizes() {
		for o := range orientationCount {
			for _, to := range append(someSizes(), [2]int{0, 0}) {
				check(impl.Surface{Id: 5, X: size[0] - to[0], Y: size[1] - 2*to[1], W: to[0], H: to[1], Alpha: 255, Orient: o, Visible: true, Buffer: unlikePixels(size[0], size[1])})
			}
		}
	}
}

func TestPictureOf(t *testing.T) {
	n := 0
	forSomeSurfaces(func(s impl.Surface) {
		for _, alpha := range []int{255, someChannels()[n%len(someChannels())]} {
			s.Alpha = alpha
			got, want := impl.PictureOf(s), surfacePicture(s)
			if !equalImages(got, want) || !impl.ImageOk(got) {
				t.Errorf("PictureOf(%v) = %v; want %v", s, got, want)
			}
			s.Visible, s.Id, s.X, s.Y = false, 99, -32, 32
			if hidden := impl.PictureOf(s); !equalImages(hidden, want) {
				t.Errorf("hidden and elsewhere, PictureOf(%v) = %v; want %v", s, hidden, want)
			}
		}
		n++
	})
}

func TestSurfaceRect(t *testing.T) {
	wide := unlikePixels(3, 2)
	cases := []struct {
		s    impl.Surface
		want impl.Rect
	}{
		{newSurface(1, 0, 0, wide), rect(0, 0, 3, 2)},
		{newSurface(1, -32, 32, wide), rect(-32, 32, 3, 2)},
		{newSurface(1, 32, -32, impl.NewImage(16, 1, 0)), rect(32, -32, 16, 1)},
		{impl.Surface{Id: 1, X: 4, Y: 5, Alpha: 255, Orient: 1, Visible: true, Buffer: wide}, rect(4, 5, 2, 3)},
		{impl.Surface{Id: 1, X: 4, Y: 5, Alpha: 255, Orient: 2, Visible: true, Buffer: wide}, rect(4, 5, 3, 2)},
		{impl.Surface{Id: 1, X: 4, Y: 5, Alpha: 0, Orient: 7, Visible: true, Buffer: wide}, rect(4, 5, 2, 3)},
		{impl.Surface{Id: 1, X: 4, Y: 5, W: 9, H: 1, Alpha: 1, Visible: true, Buffer: wide}, rect(4, 5, 9, 1)},
		{impl.Surface{Id: 1, X: 4, Y: 5, W: 9, H: 1, Alpha: 1, Orient: 1, Visible: true, Buffer: wide}, rect(4, 5, 9, 1)},
		{impl.Surface{Id: 1, X: -4, Y: -5, W: 1, H: 16, Alpha: 1, Orient: 3, Visible: true, Buffer: wide}, rect(-4, -5, 1, 16)},
		{impl.Surface{Id: 1, X: 4, Y: 5, Alpha: 255, Buffer: wide}, impl.Rect{}},
		{impl.Surface{Id: 1, X: 4, Y: 5, W: 9, H: 1, Alpha: 255, Orient: 1, Buffer: wide}, impl.Rect{}},
	}
	for _, c := range cases {
		if got := impl.SurfaceRect(c.s); got != c.want {
			t.Errorf("SurfaceRect(%v) = %v; want %v", c.s, got, c.want)
		}
	}
}

func TestSurfaceRectHasTheSizeOfThePicture(t *testing.T) {
	forSomeSurfaces(func(s impl.Surface) {
		for _, at := range [][2]int{{0, 0}, {-32, 32}, {32, -32}, {-3, 9}} {
			s.X, s.Y = at[0], at[1]
			s.Visible = true
			picture := surfacePicture(s)
			if got, want := impl.SurfaceRect(s), rect(s.X, s.Y, picture.W, picture.H); got != want || !impl.RectOk(got) {
				t.Errorf("SurfaceRect(%v) = %v; want %v", s, got, want)
			}
			s.Visible = false
			if got := impl.SurfaceRect(s); got != (impl.Rect{}) {
				t.Errorf("hidden, SurfaceRect(%v) = %v", s, got)
			}
		}
	})
}

func TestIsOpaque(t *testing.T) {
	solid, faint := impl.NewImage(4, 2, 0xff010203), impl.NewImage(4, 2, 0xfe010203)
	cases := []struct {
		name   string
		change func(x *impl.Surface)
		want   bool
	}{
		{"opaque", func(x *impl.Surface) {}, true},
		{"hidden", func(x *impl.Surface) { x.Visible = false }, true},
		{"turned and scaled", func(x *impl.Surface) { x.Orient, x.W, x.H = 5, 16, 1 }, true},
		{"off the screen", func(x *impl.Surface) { x.X, x.Y = 32, -32 }, true},
		{"faded a little", func(x *impl.Surface) { x.Alpha = 254 }, false},
		{"faded", func(x *impl.Surface) { x.Alpha = 0 }, false},
		{"faded and hidden", func(x *impl.Surface) { x.Alpha, x.Visible = 128, false }, false},
		{"clear a little", func(x *impl.Surface) { x.Buffer = faint }, false},
		{"one clear pixel", func(x *impl.Surface) { x.Buffer.Data[3] = 0x00010203 }, false},
		{"one clear pixel that is not shown", func(x *impl.Surface) { x.Buffer.Data[3], x.W, x.H = 0, 2, 2 }, true},
		{"one clear pixel that is shown", func(x *impl.Surface) { x.Buffer.Data[2], x.W, x.H = 0, 2, 2 }, false},
		{"one clear pixel that is shown turned", func(x *impl.Surface) { x.Buffer.Data[3], x.W, x.H, x.Orient = 0, 2, 2, 4 }, false},
	}
	for _, c := range cases {
		s := changedSurface(newSurface(9, 1, 2, solid), c.change)
		if got := impl.IsOpaque(s); got != c.want {
			t.Errorf("%s: IsOpaque is %v", c.name, got)
		}
	}
}

// TestIsOpaqueTellsOfEachPixelOfThePicture makes each pixel of a buffer clear in turn: it counts
// only if scaling leaves it in the picture.
func TestIsOpaqueTellsOfEachPixelOfThePicture(t *testing.T) {
	forSomeSurfaces(func(s impl.Surface) {
		s.Buffer = impl.NewImage(s.Buffer.W, s.Buffer.H, 0xff445566)
		if !impl.IsOpaque(s) {
			t.Errorf("IsOpaque(%v) is false", s)
		}
		step := len(s.Buffer.Data)/20 + 1
		for k := 0; k < len(s.Buffer.Data); k += step {
			s.Buffer.Data[k] = 0xfe445566
			want := !slices.Contains(surfacePicture(s).Data, 0xfe445566)
			if got := impl.IsOpaque(s); got != want {
				t.Errorf("IsOpaque(%v) is %v", s, got)
			}
			s.Buffer.Data[k] = 0xff445566
		}
	})
}

func TestIsOpaqueNeedsTheWholeAlpha(t *testing.T) {
	for alpha := range 256 {
		for _, a := range []int{alpha, 255} {
			s := newSurface(9, 1, 2, impl.NewImage(2, 3, a<<24|0x102030))
			s.Alpha = alpha
			if got := impl.IsOpaque(s); got != (alpha == 255) {
				t.Errorf("with the alphas %d and %d, IsOpaque is %v", a, alpha, got)
			}
			s = newSurface(9, 1, 2, impl.NewImage(2, 3, alpha<<24|0x102030))
			if got := impl.IsOpaque(s); got != (alpha == 255) {
				t.Errorf("with the alpha %d of pixels, IsOpaque is %v", alpha, got)
			}
		}
	}
}

func TestWrongSurfacesHaveNoPicture(t *testing.T) {
	for _, s := range wrongSurfaces() {
		for _, visible := range []bool{false, true} {
			s.Visible = visible
			if got := impl.PictureOf(s); !equalImages(got, impl.Image{}) {
				t.Errorf("PictureOf(%v) = %v", s, got)
			}
			if got := impl.SurfaceRect(s); got != (impl.Rect{}) {
				t.Errorf("SurfaceRect(%v) = %v", s, got)
			}
			if impl.IsOpaque(s) {
				t.Errorf("IsOpaque(%v) is true", s)
			}
		}
	}
	for _, change := range []func(x *impl.Surface){
		func(x *impl.Surface) { x.Id = 0 }, func(x *impl.Surface) { x.X = 33 }, func(x *impl.Surface) { x.H = 1 }, func(x *impl.Surface) { x.Orient = 8 },
	} {
		s := changedSurface(newSurface(1, 0, 0, image(1, 1, 0xff000000)), change)
		if impl.IsOpaque(s) {
			t.Errorf("IsOpaque(%v) is true", s)
		}
	}
}

// TestSurfaceIndex also searches scenes that are not valid.
func TestSurfaceIndex(t *testing.T) {
	list := slices.Concat(someScenes(), wrongScenes())
	list = append(list, impl.Scene{Surfaces: []impl.Surface{{Id: -5}, {Id: 0}, {Id: math.MaxInt}, {Id: 0}, {Id: 100}}})
	for _, s := range list {
		first := map[int]int{}
		for k := len(s.Surfaces) - 1; k >= 0; k-- {
			first[s.Surfaces[k].Id] = k
		}
		for _, id := range append(notIds(), 1, 2, 7, 8, 10, 11, 12, 13, 14, 15, 16, 30, 31, 50, 60, 98, 99, -5) {
			want, found := first[id]
			if !found {
				want = -1
			}
			if got := impl.SurfaceIndex(s, id); got != want {
				t.Errorf("in a scene with the surfaces %s, SurfaceIndex of %d is %d; want %d", textOfIds(s), id, got, want)
			}
		}
	}
}
