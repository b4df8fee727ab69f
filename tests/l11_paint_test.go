package tests

import (
	"math"
	"slices"
	"strings"
	"testing"

	"loop.example/g03313/impl"
)

// opaqueLetters makes an image of rows of letters, each of which is an opaque pixel; a space is a
// clear one.
func opaqueLetters(rows string) impl.Image {
	i := writtenImage(rows)
	for k, letter := range i.Data {
		if letter == ' ' {
			i.Data[k] = 0x00ffffff
		} else {
			i.Data[k] = 0xff000000 + letter
		}
	}
	return i
}

// letterScene is a scene of 5 by 4 pixels whose Back is the letter '.'.
func letterScene(surfaces ...impl.Surface) impl.Scene {
	return impl.Scene{W: 5, H: 4, Back: 0xff000000 + '.', Surfaces: surfaces}
}

// paintedPixel finds PaintAt of a valid scene at a point of its screen by the definition.
func paintedPixel(s impl.Scene, pictures []impl.Image, x, y int) int {
	p := s.Back
	for k, surface := range s.Surfaces {
		picture := pictures[k]
		if surface.Visible && contains(rect(surface.X, surface.Y, picture.W, picture.H), x, y) {
			p = pixelOver(picture.Data[(y-surface.Y)*picture.W+x-surface.X], p)
		}
	}
	return p
}

// paintedImage finds Paint of a valid scene by its definition.
func paintedImage(s impl.Scene) impl.Image {
	var pictures []impl.Image
	for _, surface := range s.Surfaces {
		pictures = append(pictures, surfacePicture(surface))
	}
	return drawnImage(s.W, s.H, func(x, y int) int { return paintedPixel(s, pictures, x, y) })
}

// fullScenes have surfaces that lie over one another, on screens of many sizes.
func fullScenes() []impl.Scene {
	var list []impl.Scene
	for n, size := range someSizes() {
		for seed := range 4 {
			s := impl.Scene{W: size[0], H: size[1], Back: 0xff000000 + 0x123457*(n+1)}
			for k := range 2 + (n+seed)%5 {
				mix := (seed*7+k)*13 + n*5
				buffer := someSizes()[mix%len(someSizes())]
				x := newSurface(99-k*7, mix%(size[0]+3)-2, mix/3%(size[1]+3)-2, unlikePixels(buffer[0], buffer[1]))
				for place, p := range x.Buffer.Data {
					x.Buffer.Data[place] = (p + someChannels()[(mix+place)%13]<<24 + mix*0x10305) % (highestPixel + 1)
				}
				x.Orient, x.Visible = mix%orientationCount, mix%9 > 0
				if mix%3 == 1 {
					x.W, x.H = 1+mix%16, 1+mix/5%16
				}
				if mix%2 == 1 {
					x.Alpha = someChannels()[mix/2%13]
				}
				s.Surfaces = append(s.Surfaces, x)
			}
			list = append(list, s)
		}
	}
	return list
}

// validScenes are empty ones, full ones, and ones with numbers at their limits.
func validScenes() []impl.Scene {
	list := append(someScenes(), fullScenes()...)
	for seed := range 30 {
		s, _ := impl.DoEdits(scene(), manyEdits(2000+seed, 60))
		size := someSizes()[seed%len(someSizes())]
		list = append(list, s, changedScene(s, func(x *impl.Scene) { x.W, x.H = size[0], size[1] }))
	}
	return list
}

// checkPaint checks the image of a scene and the pixels around and in it.
func checkPaint(t *testing.T, name string, s impl.Scene, want impl.Image) {
	t.Helper()
	if got := impl.Paint(s); !equalImages(got, want) {
		t.Errorf("%s: Paint(%v) = %v; want %v", name, s, got, want)
	}
	for y := -2; y < s.H+2; y++ {
		for x := -2; x < s.W+2; x++ {
			pixel := -1
			if 0 <= x && x < s.W && 0 <= y && y < s.H {
				pixel = want.Data[y*s.W+x]
			}
			if got := impl.PaintAt(s, x, y); got != pixel {
				t.Errorf("%s: PaintAt(%v, %d, %d) = %#x; want %#x", name, s, x, y, got, pixel)
			}
		}
	}
}

func TestPaintOneSurface(t *testing.T) {
	rows := opaqueLetters("abc/def")
	cases := []struct {
		name string
		x, y int
		want string
	}{
		{"at the corner", 0, 0, "abc../def../...../....."},
		{"within", 1, 2, "...../...../.abc./.def."},
		{"at the other corner", 2, 2, "...../...../..abc/..def"},
		{"beyond the left side", -1, 1, "...../bc.../ef.../....."},
		{"beyond the right side", 3, 1, "...../...ab/...de/....."},
		{"beyond the upper side", 1, -1, ".def./...../...../....."},
		{"beyond the lower side", 1, 3, "...../...../...../.abc."},
		{"beyond two sides", -2, -1, "f..../...../...../....."},
		{"beyond the other two", 4, 3, "...../...../...../....a"},
		{"left of the screen", -3, 0, "...../...../...../....."},
		{"right of the screen", 5, 0, "...../...../...../....."},
		{"above the screen", 0, -2, "...../...../...../....."},
		{"below the screen", 0, 4, "...../...../...../....."},
		{"far above", -32, -32, "...../...../...../....."},
		{"far below", 32, 32, "...../...../...../....."},
	}
	for _, c := range cases {
		checkPaint(t, c.name, letterScene(newSurface(7, c.x, c.y, rows)), opaqueLetters(c.want))
	}
}

func TestPaintOrientedAndScaledSurfaces(t *testing.T) {
	rows := opaqueLetters("abc/def")
	cases := []struct {
		name         string
		orient, w, h int
		want         string
	}{
		{"turned", 1, 0, 0, "...../.da../.eb../.fc.."},
		{"mirrored", 4, 0, 0, "...../.cba./.fed./....."},
		{"scaled", 0, 2, 3, "...../.ab../.ab../.de.."},
		{"larger than the screen", 0, 9, 8, "...../.aaab/.aaab/.aaab"},
		{"turned and scaled", 1, 4, 3, "...../.ddaa/.eebb/.ffcc"},
		{"one pixel", 2, 1, 1, "...../.f.../...../....."},
	}
	for _, c := range cases {
		s := newSurface(7, 1, 1, rows)
		s.Orient, s.W, s.H = c.orient, c.w, c.h
		checkPaint(t, c.name, letterScene(s), opaqueLetters(c.want))
	}
}

func TestPaintSeveralSurfaces(t *testing.T) {
	wide, high := newSurface(1, 0, 1, opaqueLetters("abcd/efgh")), newSurface(2, 2, 0, opaqueLetters("pq/rs/tu"))
	frame := newSurface(3, 1, 0, opaqueLetters("xxx/x x/xxx"))
	hidden := changedSurface(frame, func(x *impl.Surface) { x.Visible = false })
	faint := changedSurface(frame, func(x *impl.Surface) { x.Alpha = 0 })
	cases := []struct {
		name     string
		surfaces []impl.Surface
		want     string
	}{
		{"none", nil, "...../...../...../....."},
		{"the high one above", []impl.Surface{wide, high}, "..pq./abrs./eftu./....."},
		{"the wide one above", []impl.Surface{high, wide}, "..pq./abcd./efgh./....."},
		{"a frame above", []impl.Surface{wide, high, frame}, ".xxx./axrx./exxx./....."},
		{"a frame below", []impl.Surface{frame, high, wide}, ".xpq./abcd./efgh./....."},
		{"a frame between", []impl.Surface{wide, frame, high}, ".xpq./axrs./extu./....."},
		{"a hidden one between", []impl.Surface{wide, hidden, high}, "..pq./abrs./eftu./....."},
		{"a hidden one above", []impl.Surface{wide, high, hidden}, "..pq./abrs./eftu./....."},
		{"a faint one above", []impl.Surface{high, wide, faint}, "..pq./abcd./efgh./....."},
		{"a hidden one alone", []impl.Surface{hidden}, "...../...../...../....."},
	}
	for _, c := range cases {
		checkPaint(t, c.name, letterScene(c.surfaces...), opaqueLetters(c.want))
	}
}

func TestPaintMixesPixels(t *testing.T) {
	const black, white, halfRed, halfGreen = 0xff000000, 0xffffffff, 0x80ff0000, 0x8000ff00
	cases := []struct {
		name   string
		back   int
		pixels []int
		alphas []int
		want   int
	}{
		{"nothing", 0xff123456, nil, nil, 0xff123456},
		{"opaque", white, []int{0xff123456}, []int{255}, 0xff123456},
		{"clear", white, []int{0x00123456}, []int{255}, white},
		{"wholly faded", white, []int{0xff123456}, []int{0}, white},
		{"half red", black, []int{halfRed}, []int{255}, 0xff800000},
		{"half red on white", white, []int{halfRed}, []int{255}, 0xffff7f7f},
		{"red faded by a half", black, []int{0xffff0000}, []int{128}, 0xff800000},
		{"half red faded by a half", black, []int{halfRed}, []int{128}, 0xff400000},
		{"green over red", black, []int{halfRed, halfGreen}, []int{255, 255}, 0xff408000},
		{"red over green", black, []int{halfGreen, halfRed}, []int{255, 255}, 0xff804000},
		{"opaque over half", black, []int{halfRed, white}, []int{255, 255}, white},
		{"half over opaque", black, []int{white, halfRed}, []int{255, 255}, 0xffff7f7f},
		{"three", black, []int{halfRed, halfGreen, 0x800000ff}, []int{255, 255, 255}, 0xff204080},
	}
	for _, c := range cases {
		s := impl.Scene{W: 1, H: 1, Back: c.back}
		for k, p := range c.pixels {
			x := newSurface(20-k, 0, 0, image(1, 1, p))
			x.Alpha = c.alphas[k]
			s.Surfaces = append(s.Surfaces, x)
		}
		checkPaint(t, c.name, s, image(1, 1, c.want))
	}
}

func TestPaintIsAsDefined(t *testing.T) {
	for _, s := range validScenes() {
		if !impl.SceneOk(s) {
			t.Fatalf("%v is not valid", s)
		}
		checkPaint(t, "by definition", s, paintedImage(s))
	}
}

// TestPaintASurfaceAtAllPlaces moves a surface over the whole range of its places.
func TestPaintASurfaceAtAllPlaces(t *testing.T) {
	for n, size := range [][2]int{{16, 16}, {1, 1}, {3, 7}, {16, 2}} {
		for _, buffer := range [][2]int{{1, 1}, {3, 2}, {16, 16}} {
			for y := -greatestPlace; y <= greatestPlace; y++ {
				for x := -greatestPlace; x <= greatestPlace; x++ {
					surface := newSurface(5, x, y, unlikePixels(buffer[0], buffer[1]))
					surface.Orient, surface.Alpha = (x+y+64)%orientationCount, 255-n
					s := impl.Scene{W: size[0], H: size[1], Back: 0xff654321, Surfaces: []impl.Surface{surface}}
					if got, want := impl.Paint(s), paintedImage(s); !equalImages(got, want) {
						t.Fatalf("Paint(%v) = %v; want %v", s, got, want)
					}
				}
			}
		}
	}
}

// TestEachSurfaceIsPaintedOverTheRest paints the surfaces of a scene one after the other: each of
// them changes what is below it, and nothing else.
func TestEachSurfaceIsPaintedOverTheRest(t *testing.T) {
	for _, s := range validScenes() {
		below := impl.NewImage(s.W, s.H, s.Back)
		for k, surface := range s.Surfaces {
			picture := surfacePicture(surface)
			want := drawnImage(s.W, s.H, func(x, y int) int {
				p := below.Data[y*s.W+x]
				if !surface.Visible || !contains(rect(surface.X, surface.Y, picture.W, picture.H), x, y) {
					return p
				}
				return pixelOver(picture.Data[(y-surface.Y)*picture.W+x-surface.X], p)
			})
			lower := changedScene(s, func(x *impl.Scene) { x.Surfaces = x.Surfaces[:k+1] })
			below = impl.Paint(lower)
			if !equalImages(below, want) {
				t.Fatalf("with %v, Paint(%v) = %v; want %v", surface, lower, below, want)
			}
		}
	}
}

// TestOpaqueSurfacesHideTheRest covers the whole screen with one.
func TestOpaqueSurfacesHideTheRest(t *testing.T) {
	for _, s := range validScenes() {
		cover := drawnImage(s.W, s.H, func(x, y int) int { return 0xff000000 + 300*y + x })
		covered := changedScene(s, func(x *impl.Scene) {
			x.Surfaces = append(x.Surfaces[:min(len(x.Surfaces), mostSurfaces-1)], newSurface(77, 0, 0, cover))
		})
		if !impl.SceneOk(covered) {
			t.Fatalf("%v is not valid", covered)
		}
		if got := impl.Paint(covered); !equalImages(got, cover) {
			t.Errorf("Paint(%v) = %v; want %v", covered, got, cover)
		}
	}
}

// TestSurfacesThatAreNotSeenChangeNothing hides, fades and moves away each surface of a scene: what
// is left is the scene without it.
func TestSurfacesThatAreNotSeenChangeNothing(t *testing.T) {
	unseen := []func(x *impl.Surface){
		func(x *impl.Surface) { x.Visible = false },
		func(x *impl.Surface) { x.Alpha = 0 },
		func(x *impl.Surface) { x.X = 16 },
		func(x *impl.Surface) { x.X = -16 },
		func(x *impl.Surface) { x.Y = 16 },
		func(x *impl.Surface) { x.Y = -16 },
		func(x *impl.Surface) { x.Buffer = impl.NewImage(x.Buffer.W, x.Buffer.H, 0x00ffffff) },
	}
	for _, s := range fullScenes() {
		for k := range s.Surfaces {
			without := changedScene(s, func(x *impl.Scene) { x.Surfaces = slices.Delete(x.Surfaces, k, k+1) })
			want := impl.Paint(without)
			for n, change := range unseen {
				changed := changedScene(s, func(x *impl.Scene) { change(&x.Surfaces[k]) })
				if got := impl.Paint(changed); !equalImages(got, want) {
					t.Errorf("with the change %d of surface %d, Paint(%v) = %v; want %v", n, k, changed, got, want)
				}
			}
		}
	}
}

// TestIdsDoNotCountForPaint gives other Ids to the surfaces of a scene.
func TestIdsDoNotCountForPaint(t *testing.T) {
	for _, s := range validScenes() {
		changed := changedScene(s, func(x *impl.Scene) {
			for k := range x.Surfaces {
				x.Surfaces[k].Id = highestId - k*9
			}
		})
		if got, want := impl.Paint(changed), impl.Paint(s); !equalImages(got, want) {
			t.Errorf("Paint(%v) = %v; want %v", changed, got, want)
		}
	}
}

// TestRaisedSurfacesArePaintedLast edits letters that lie over one another.
func TestRaisedSurfacesArePaintedLast(t *testing.T) {
	s := letterScene()
	for k, letter := range []string{"a", "b", "c", "d", "e", "f"} {
		rows := strings.Repeat(letter+letter+letter+"/", 2) + letter + letter + letter
		s.Surfaces = append(s.Surfaces, newSurface(k+1, k%3, k%2, opaqueLetters(rows)))
	}
	for id := 1; id <= mostSurfaces; id++ {
		raised, ok := impl.DoEdit(s, impl.Edit{Kind: impl.EditRaise, Id: id})
		if !ok {
			t.Fatalf("surface %d is not raised", id)
		}
		x := s.Surfaces[id-1]
		got, ok := impl.CropImage(impl.Paint(raised), rect(x.X, x.Y, 3, 3))
		if !ok || !equalImages(got, x.Buffer) {
			t.Errorf("the raised surface %d shows %v", id, got)
		}
		lowered, ok := impl.DoEdit(raised, impl.Edit{Kind: impl.EditLower, Id: id})
		if !ok {
			t.Fatalf("surface %d is not lowered", id)
		}
		if got, want := impl.Paint(lowered), paintedImage(lowered); !equalImages(got, want) || equalImages(got, impl.Paint(raised)) {
			t.Errorf("with the lowered surface %d, Paint is %v; want %v", id, got, want)
		}
	}
}

func TestPaintedPixelsAreOpaque(t *testing.T) {
	for _, s := range validScenes() {
		painted := impl.Paint(s)
		if !impl.ImageOk(painted) || painted.W != s.W || painted.H != s.H {
			t.Errorf("Paint(%v) = %v", s, painted)
		}
		for _, p := range painted.Data {
			if p>>24 != 255 {
				t.Errorf("Paint(%v) has the pixel %#x", s, p)
			}
		}
	}
}

// TestPaintAtFarPlaces also tries places whose place in Data, with its overflow, is one of Data.
func TestPaintAtFarPlaces(t *testing.T) {
	s := changedScene(crowdedScene(3), func(x *impl.Scene) { x.W, x.H = 16, 16 })
	places := [][2]int{{1 << 32, -1 << 28}, {0, 1 << 60}, {5, -1 << 60}, {-16, 1}, {16, 0}, {255, 0}, {-15, 1}, {31, -1}}
	for _, far := range append(farNumbers(), -1, 16, -32, 32) {
		places = append(places, [2]int{far, 0}, [2]int{0, far}, [2]int{far, far}, [2]int{far, 15}, [2]int{15, far})
	}
	for _, place := range places {
		if got := impl.PaintAt(s, place[0], place[1]); got != -1 {
			t.Errorf("PaintAt(%d, %d) = %d", place[0], place[1], got)
		}
	}
}

func TestWrongScenesAreNotPainted(t *testing.T) {
	identity := impl.IdentityColor()
	for _, s := range wrongScenes() {
		if got := impl.Paint(s); !equalImages(got, impl.Image{}) {
			t.Errorf("Paint(%v) = %v", s, got)
		}
		for _, place := range [][2]int{{0, 0}, {1, 1}, {s.W - 1, s.H - 1}, {-1, 0}, {math.MaxInt, math.MinInt}} {
			if got := impl.PaintAt(s, place[0], place[1]); got != -1 {
				t.Errorf("PaintAt(%v, %v) = %d", s, place, got)
			}
		}
		if got := impl.ColoredScene(s, identity); got != nil {
			t.Errorf("ColoredScene(%v) = %v", s, got)
		}
		for _, i := range []impl.Image{unlikePixels(5, 4), image(1, 1, 9), image(1, 1, -9), {}} {
			for _, r := range []impl.Region{region(rect(0, 0, 16, 16)), region(rect(0, 0, 1, 1)), region(rect(1, 0, 0, 0)), {}} {
				if got := impl.PaintInto(i, s, r); !equalImages(got, i) {
					t.Errorf("PaintInto(%v, %v, %v) = %v", i, s, r, got)
				}
			}
		}
	}
}

// TestPaintSharesNoMemory paints a scene in front of spare capacity that holds other surfaces and
// pixels, and changes the results.
func TestPaintSharesNoMemory(t *testing.T) {
	pixels := []int{1, 2, 0xff030405, 0x80ff8040, 5, 0x7f060708, 7, 8, 9, 10}
	surfaces := []impl.Surface{
		newSurface(80, 0, 0, image(1, 1, 1)), newSurface(1, 2, 3, impl.Image{W: 2, H: 1, Data: pixels[1:3]}), newSurface(2, 3, 3, impl.Image{W: 2, H: 1, Data: pixels[1:3]}),
		newSurface(3, 0, 1, impl.Image{W: 1, H: 3, Data: pixels[2:5]}), newSurface(81, 0, 0, image(1, 1, 1)), newSurface(82, 0, 0, image(1, 1, 1)),
	}
	whole := impl.Image{W: 5, H: 4, Data: append(slices.Repeat([]int{0xff777777}, 20), 1, 2, 3)[:20]}
	for _, back := range []int{0xff405060, 0} {
		s := scene(surfaces[1:4]...)
		s.Back = back
		pixelsBefore, before := slices.Clone(pixels), copyOfScene(scene(surfaces...))
		want, wantColored := impl.Paint(s), impl.ColoredScene(s, impl.IdentityColor())
		for range 2 {
			painted, colored := impl.Paint(s), impl.ColoredScene(s, impl.IdentityColor())
			impl.PaintAt(s, 3, 3)
			impl.PaintInto(whole, s, region(rect(0, 0, 5, 4)))
			if !equalImages(painted, want) || !slices.Equal(colored, wantColored) {
				t.Errorf("a change of a result is seen in %v or %v", painted, colored)
			}
			for k := range painted.Data {
				painted.Data[k], colored[k] = -5, -5
			}
			_, _ = append(painted.Data, -6), append(colored, -6)
			if !slices.Equal(pixels, pixelsBefore) || !equalScenes(scene(surfaces...), before) {
				t.Fatalf("the arguments became %v and %v", pixels, surfaces)
			}
		}
	}
	if slices.ContainsFunc(whole.Data, func(p int) bool { return p != 0xff777777 }) || !slices.Equal(whole.Data[20:23], []int{1, 2, 3}) {
		t.Errorf("the image became %v", whole.Data[:23])
	}
}
