package tests

import (
	"slices"
	"strings"
	"testing"

	"loop.example/g03313/impl"
)

// writtenPoints reads a drawing of the upper left corner of the screen from its rows.
func writtenPoints(rows string) screenRows {
	list := strings.Split(rows, "/")
	return drawnPoints(func(x, y int) bool { return y < len(list) && x < len(list[y]) && list[y][x] == '#' })
}

// solidSurface is an opaque surface with a pixel of its own, over the points of a rectangle.
func solidSurface(id int, r impl.Rect) impl.Surface {
	return newSurface(id, r.X, r.Y, impl.NewImage(r.W, r.H, 0xff000000+id*0x10203))
}

// faintSurface is a surface through which the rest can be seen, over the points of a rectangle.
func faintSurface(id int, r impl.Rect) impl.Surface {
	return changedSurface(solidSurface(id, r), func(x *impl.Surface) { x.Alpha = 200 })
}

// hiddenSurface is a surface that is opaque, but not visible.
func hiddenSurface(id int, r impl.Rect) impl.Surface {
	return changedSurface(solidSurface(id, r), func(x *impl.Surface) { x.Visible = false })
}

// isSolid finds IsOpaque of a valid surface by its definition.
func isSolid(s impl.Surface) bool {
	return !slices.ContainsFunc(surfacePicture(s).Data, func(p int) bool { return p>>24 != 255 })
}

// placeOf finds SurfaceRect of a valid surface by its definition.
func placeOf(s impl.Surface) impl.Rect {
	picture := surfacePicture(s)
	if !s.Visible {
		return impl.Rect{}
	}
	return rect(s.X, s.Y, picture.W, picture.H)
}

// surfacePoints draws the points that surface k of a valid scene has on the screen.
func surfacePoints(s impl.Scene, k int) screenRows {
	place := placeOf(s.Surfaces[k])
	return drawnPoints(func(x, y int) bool { return x < s.W && y < s.H && contains(place, x, y) })
}

// coveredPoints finds CoverOf of a valid scene by its definition.
func coveredPoints(s impl.Scene, k int) screenRows {
	var covers []screenRows
	for above := k + 1; above < len(s.Surfaces); above++ {
		if isSolid(s.Surfaces[above]) {
			covers = append(covers, surfacePoints(s, above))
		}
	}
	return drawnPoints(func(x, y int) bool {
		return slices.ContainsFunc(covers, func(cover screenRows) bool { return cover.has(x, y) })
	})
}

// visiblePoints finds VisibleOf of a valid scene by its definition.
func visiblePoints(s impl.Scene, k int) screenRows {
	points, cover := surfacePoints(s, k), coveredPoints(s, k)
	return drawnPoints(func(x, y int) bool { return points.has(x, y) && !cover.has(x, y) })
}

// pointsPainted finds the number of PaintVisible of a valid scene by its definition.
func pointsPainted(s impl.Scene) int {
	n := s.W*s.H - coveredPoints(s, -1).area()
	for k := range s.Surfaces {
		n += visiblePoints(s, k).area()
	}
	return n
}

// pointsOfAll finds PaintCost of a valid scene by its definition.
func pointsOfAll(s impl.Scene) int {
	n := s.W * s.H
	for k := range s.Surfaces {
		n += surfacePoints(s, k).area()
	}
	return n
}

// scenesWithSolids are full scenes in which some surfaces are made opaque: in each pixel, or only
// in those that scaling leaves in the picture.
func scenesWithSolids() []impl.Scene {
	var list []impl.Scene
	for n, s := range fullScenes() {
		for _, solids := range []int{1 + n%62, 63} {
			list = append(list, changedScene(s, func(x *impl.Scene) {
				for k := range x.Surfaces {
					if solids>>k&1 == 1 {
						makeSolid(&x.Surfaces[k])
					}
				}
			}))
		}
	}
	return list
}

// makeSolid makes a surface opaque. If scaling leaves all but one pixel out, only this one counts.
func makeSolid(s *impl.Surface) {
	s.Alpha = 255
	for k, p := range s.Buffer.Data {
		s.Buffer.Data[k] = p | 0xff000000
	}
	if s.W == 1 && s.H == 1 && len(s.Buffer.Data) > 1 && s.Orient == 0 {
		s.Buffer.Data[1] &= 0x00ffffff
	}
}

// layeredScenes have opaque surfaces and others above one another in all orders.
func layeredScenes() []impl.Scene {
	return slices.Concat(validScenes(), scenesWithSolids())
}

// checkOcclusion checks all functions of the chapter for a valid scene, by their definitions.
func checkOcclusion(t *testing.T, s impl.Scene) {
	t.Helper()
	for k := -1; k < len(s.Surfaces); k++ {
		checkRegion(t, impl.CoverOf(s, k), coveredPoints(s, k))
		if k >= 0 {
			checkRegion(t, impl.VisibleOf(s, k), visiblePoints(s, k))
		}
	}
	painted, n := impl.PaintVisible(s)
	if want := paintedImage(s); !equalImages(painted, want) {
		t.Errorf("PaintVisible(%v) = %v; want %v", s, painted, want)
	}
	if want := pointsPainted(s); n != want {
		t.Errorf("PaintVisible(%v) paints %d points; want %d", s, n, want)
	}
	if got, want := impl.PaintCost(s), pointsOfAll(s); got != want {
		t.Errorf("PaintCost(%v) = %d; want %d", s, got, want)
	}
}

// occlusionCase has the drawings of CoverOf from the index -1 on, and of VisibleOf, on a screen of
// 5 by 4 pixels.
type occlusionCase struct {
	name          string
	surfaces      []impl.Surface
	covers        []string
	visible       []string
	painted, cost int
}

func (c occlusionCase) check(t *testing.T) {
	t.Helper()
	s := letterScene(c.surfaces...)
	for k, rows := range c.covers {
		if got := impl.CoverOf(s, k-1); !slices.Equal(got.Rects, writtenPoints(rows).form()) {
			t.Errorf("%s: CoverOf at %d is %v; want %s", c.name, k-1, got, rows)
		}
	}
	for k, rows := range c.visible {
		if got := impl.VisibleOf(s, k); !slices.Equal(got.Rects, writtenPoints(rows).form()) {
			t.Errorf("%s: VisibleOf at %d is %v; want %s", c.name, k, got, rows)
		}
	}
	painted, n := impl.PaintVisible(s)
	if cost := impl.PaintCost(s); n != c.painted || cost != c.cost {
		t.Errorf("%s: %d points are painted, of %d; want %d, of %d", c.name, n, cost, c.painted, c.cost)
	}
	if want := paintedImage(s); !equalImages(painted, want) {
		t.Errorf("%s: PaintVisible is %v; want %v", c.name, painted, want)
	}
}

func TestOcclusionOfFewSurfaces(t *testing.T) {
	wide, high, all := rect(0, 1, 4, 2), rect(2, 0, 2, 3), rect(0, 0, 5, 4)
	cases := []occlusionCase{
		{"none", nil, []string{""}, nil, 20, 20},
		{"one", []impl.Surface{solidSurface(1, wide)}, []string{"/####/####", ""}, []string{"/####/####"}, 20, 28},
		{"a faint one", []impl.Surface{faintSurface(1, wide)}, []string{"", ""}, []string{"/####/####"}, 28, 28},
		{"a hidden one", []impl.Surface{hiddenSurface(1, wide)}, []string{"", ""}, []string{""}, 20, 20},
		{"the high one above", []impl.Surface{solidSurface(1, wide), solidSurface(2, high)},
			[]string{"..##/####/####", "..##/..##/..##", ""}, []string{"/##/##", "..##/..##/..##"}, 20, 34},
		{"the wide one above", []impl.Surface{solidSurface(2, high), solidSurface(1, wide)},
			[]string{"..##/####/####", "/####/####", ""}, []string{"..##", "/####/####"}, 20, 34},
		{"a faint one above", []impl.Surface{solidSurface(1, wide), faintSurface(2, high)},
			[]string{"/####/####", "", ""}, []string{"/####/####", "..##/..##/..##"}, 26, 34},
		{"a faint one below", []impl.Surface{faintSurface(1, wide), solidSurface(2, high)},
			[]string{"..##/..##/..##", "..##/..##/..##", ""}, []string{"/##/##", "..##/..##/..##"}, 24, 34},
		{"a hidden one above", []impl.Surface{solidSurface(1, wide), hiddenSurface(2, high)},
			[]string{"/####/####", "", ""}, []string{"/####/####", ""}, 20, 28},
		{"a hidden one below", []impl.Surface{hiddenSurface(1, wide), solidSurface(2, high)},
			[]string{"..##/..##/..##", "..##/..##/..##", ""}, []string{"", "..##/..##/..##"}, 20, 26},
		{"wholly covered", []impl.Surface{solidSurface(1, wide), faintSurface(2, high), solidSurface(3, all)},
			[]string{"#####/#####/#####/#####", "#####/#####/#####/#####", "#####/#####/#####/#####", ""},
			[]string{"", "", "#####/#####/#####/#####"}, 20, 54},
		{"wholly covered by two", []impl.Surface{faintSurface(1, rect(1, 1, 3, 2)), solidSurface(2, rect(0, 0, 2, 4)), solidSurface(3, rect(2, 0, 3, 4))},
			[]string{"#####/#####/#####/#####", "#####/#####/#####/#####", "..###/..###/..###/..###", ""},
			[]string{"", "##/##/##/##", "..###/..###/..###/..###"}, 20, 46},
		{"a hole", []impl.Surface{solidSurface(1, all), solidSurface(2, rect(1, 1, 3, 2))},
			[]string{"#####/#####/#####/#####", ".../.###/.###", ""}, []string{"#####/#...#/#...#/#####", "/.###/.###"}, 20, 46},
		{"the same place", []impl.Surface{solidSurface(1, high), solidSurface(2, high)},
			[]string{"..##/..##/..##", "..##/..##/..##", ""}, []string{"", "..##/..##/..##"}, 20, 32},
	}
	for _, c := range cases {
		c.check(t)
	}
}

func TestOcclusionAtTheSidesOfTheScreen(t *testing.T) {
	cases := []struct {
		name string
		r    impl.Rect
		rows string
	}{
		{"at the corner", rect(0, 0, 3, 2), "###/###"},
		{"at the other corner", rect(2, 2, 3, 2), "//..###/..###"},
		{"beyond the left side", rect(-2, 1, 3, 2), "/#/#"},
		{"beyond the right side", rect(4, 1, 3, 2), "/....#/....#"},
		{"beyond the upper side", rect(1, -1, 3, 2), ".###"},
		{"beyond the lower side", rect(1, 3, 3, 2), "///.###"},
		{"beyond two sides", rect(-15, -15, 16, 16), "#"},
		{"beyond the other two", rect(4, 3, 16, 16), "///....#"},
		{"beyond all sides", rect(-3, -4, 16, 16), "#####/#####/#####/#####"},
		{"left of the screen", rect(-3, 0, 3, 2), ""},
		{"right of the screen", rect(5, 0, 3, 2), ""},
		{"above the screen", rect(0, -2, 3, 2), ""},
		{"below the screen", rect(0, 4, 3, 2), ""},
		{"far away", rect(32, -32, 16, 16), ""},
	}
	for _, c := range cases {
		area := writtenPoints(c.rows).area()
		occlusionCase{c.name, []impl.Surface{solidSurface(1, c.r)}, []string{c.rows, ""}, []string{c.rows}, 20, 20 + area}.check(t)
		occlusionCase{c.name + ", faint", []impl.Surface{faintSurface(1, c.r)}, []string{"", ""}, []string{c.rows}, 20 + area, 20 + area}.check(t)
	}
}

// TestOpacityIsThatOfThePicture turns, scales and fades a surface that has one clear pixel, or none.
func TestOpacityIsThatOfThePicture(t *testing.T) {
	solid, holed := opaqueLetters("abc/def"), opaqueLetters("abc/de ")
	cases := []struct {
		name         string
		buffer       impl.Image
		orient, w, h int
		alpha        int
		opaque       bool
		rows         string
	}{
		{"opaque", solid, 0, 0, 0, 255, true, "/.###/.###"},
		{"with a clear pixel", holed, 0, 0, 0, 255, false, "/.###/.###"},
		{"turned", solid, 3, 0, 0, 255, true, "/.##/.##/.##"},
		{"mirrored and turned", solid, 5, 0, 0, 255, true, "/.##/.##/.##"},
		{"scaled", solid, 0, 1, 2, 255, true, "/.#/.#"},
		{"larger than the screen", solid, 0, 16, 16, 255, true, "/.####/.####/.####"},
		{"scaled without the clear pixel", holed, 0, 3, 1, 255, true, "/.###"},
		{"turned and scaled with it", holed, 2, 3, 1, 255, false, "/.###"},
		{"faded", solid, 0, 0, 0, 254, false, "/.###/.###"},
		{"wholly faded", solid, 0, 0, 0, 0, false, "/.###/.###"},
	}
	for _, c := range cases {
		s := newSurface(5, 1, 1, c.buffer)
		s.Orient, s.W, s.H, s.Alpha = c.orient, c.w, c.h, c.alpha
		want := occlusionCase{c.name, []impl.Surface{s}, []string{"", ""}, []string{c.rows}, 20 + writtenPoints(c.rows).area(), 20 + writtenPoints(c.rows).area()}
		if c.opaque {
			want.covers[0], want.painted = c.rows, 20
		}
		want.check(t)
	}
}

func TestOcclusionIsAsDefined(t *testing.T) {
	for _, s := range layeredScenes() {
		if !impl.SceneOk(s) {
			t.Fatalf("%v is not valid", s)
		}
		checkOcclusion(t, s)
	}
}

// TestOcclusionAtAllPlaces moves an opaque surface over the whole range of its places.
func TestOcclusionAtAllPlaces(t *testing.T) {
	for y := -greatestPlace; y <= greatestPlace; y++ {
		for x := -greatestPlace; x <= greatestPlace; x++ {
			s := impl.Scene{W: 3, H: 7, Back: 0xff654321, Surfaces: []impl.Surface{
				faintSurface(3, rect(1, 1, 9, 9)), solidSurface(4, rect(x, y, 5, 4)),
			}}
			checkOcclusion(t, s)
			if (x+y)%7 == 0 {
				s.W, s.H = screenSide, screenSide
				checkOcclusion(t, s)
			}
		}
	}
}

// TestPaintingWhatCanBeSeenIsPainting compares PaintVisible with Paint: the image is the same, and
// as many points are saved as are covered.
func TestPaintingWhatCanBeSeenIsPainting(t *testing.T) {
	for _, s := range layeredScenes() {
		painted, n := impl.PaintVisible(s)
		if want := impl.Paint(s); !equalImages(painted, want) {
			t.Errorf("PaintVisible(%v) = %v; want %v", s, painted, want)
		}
		saved := coveredPoints(s, -1).area()
		for k := range s.Surfaces {
			points, cover := surfacePoints(s, k), coveredPoints(s, k)
			saved += drawnPoints(func(x, y int) bool { return points.has(x, y) && cover.has(x, y) }).area()
		}
		if cost := impl.PaintCost(s); n != cost-saved || n > cost || n < s.W*s.H {
			t.Errorf("PaintVisible(%v) paints %d points of %d, of which %d are covered", s, n, cost, saved)
		}
	}
}

// lowestSeen finds the index of the highest opaque surface of a valid scene at each point: no surface
// below this one is seen there. It is -1 where none is.
func lowestSeen(s impl.Scene) [screenSide][screenSide]int {
	var lowest [screenSide][screenSide]int
	for y := range lowest {
		for x := range lowest[y] {
			lowest[y][x] = -1
		}
	}
	for k, surface := range s.Surfaces {
		points, solid := surfacePoints(s, k), isSolid(surface)
		for y := range lowest {
			for x := range lowest[y] {
				if solid && points.has(x, y) {
					lowest[y][x] = k
				}
			}
		}
	}
	return lowest
}

// TestPointsAreSeenUpFromTheirCover finds the regions from the top downward: a point is seen of the
// highest opaque surface there, and of each surface above that one.
func TestPointsAreSeenUpFromTheirCover(t *testing.T) {
	for _, s := range layeredScenes() {
		lowest := lowestSeen(s)
		for k := -1; k < len(s.Surfaces); k++ {
			want := drawnPoints(func(x, y int) bool { return lowest[y][x] > k })
			if got := impl.CoverOf(s, k); !slices.Equal(got.Rects, want.form()) {
				t.Errorf("CoverOf(%v, %d) = %v; want %v", s, k, got, want.form())
			}
			if k < 0 {
				continue
			}
			points := surfacePoints(s, k)
			want = drawnPoints(func(x, y int) bool { return points.has(x, y) && lowest[y][x] <= k })
			if got := impl.VisibleOf(s, k); !slices.Equal(got.Rects, want.form()) {
				t.Errorf("VisibleOf(%v, %d) = %v; want %v", s, k, got, want.form())
			}
		}
	}
}

// TestCoveredPixelsDoNotMatter changes the pixels of each surface that are not in its VisibleOf.
func TestCoveredPixelsDoNotMatter(t *testing.T) {
	for _, s := range layeredScenes() {
		want, _ := impl.PaintVisible(s)
		for k, surface := range s.Surfaces {
			if surface.Orient != 0 || surface.W != 0 || !surface.Visible {
				continue
			}
			seen := impl.VisibleOf(s, k)
			changed := changedScene(s, func(x *impl.Scene) {
				buffer := x.Surfaces[k].Buffer
				for place, p := range buffer.Data {
					if !impl.InRegion(seen, surface.X+place%buffer.W, surface.Y+place/buffer.W) {
						// The alpha stays, so that the surface covers what it covered.
						buffer.Data[place] = p ^ 0x00ffffff
					}
				}
			})
			if got := impl.Paint(changed); !equalImages(got, want) {
				t.Errorf("with other covered pixels of surface %d, Paint of %v is %v; want %v", k, changed, got, want)
			}
		}
	}
}

func TestOcclusionOfIndexesOutOfRange(t *testing.T) {
	for _, s := range append(layeredScenes()[:60], crowdedScene(0), crowdedScene(6)) {
		n := len(s.Surfaces)
		for _, k := range append(farNumbers(), -3, -2, n, n+1, n+2, 1<<32-1, -1<<32-1, 255, -255) {
			if got := impl.CoverOf(s, k); !sameForm(got, impl.Region{}) {
				t.Errorf("with %d surfaces, CoverOf at %d is %v", n, k, got)
			}
			if got := impl.VisibleOf(s, k); !sameForm(got, impl.Region{}) {
				t.Errorf("with %d surfaces, VisibleOf at %d is %v", n, k, got)
			}
		}
		if got := impl.VisibleOf(s, -1); !sameForm(got, impl.Region{}) {
			t.Errorf("with %d surfaces, VisibleOf at -1 is %v", n, got)
		}
		if got := impl.CoverOf(s, n-1); !sameForm(got, impl.Region{}) {
			t.Errorf("with %d surfaces, CoverOf at %d is %v", n, n-1, got)
		}
	}
}

func TestWrongScenesHaveNoOcclusion(t *testing.T) {
	for _, s := range wrongScenes() {
		for k := -2; k <= 7; k++ {
			if got := impl.CoverOf(s, k); !sameForm(got, impl.Region{}) {
				t.Errorf("CoverOf(%v, %d) = %v", s, k, got)
			}
			if got := impl.VisibleOf(s, k); !sameForm(got, impl.Region{}) {
				t.Errorf("VisibleOf(%v, %d) = %v", s, k, got)
			}
		}
		if painted, n := impl.PaintVisible(s); !equalImages(painted, impl.Image{}) || n != 0 {
			t.Errorf("PaintVisible(%v) = %v, %d", s, painted, n)
		}
		if got := impl.PaintCost(s); got != 0 {
			t.Errorf("PaintCost(%v) = %d", s, got)
		}
	}
}

// TestOcclusionSharesNoMemory takes a scene in front of spare capacity that holds other surfaces
// and pixels, and changes the results.
func TestOcclusionSharesNoMemory(t *testing.T) {
	pixels := []int{1, 2, 0xff030405, 0xffff8040, 0xff000005, 0x7f060708, 7, 8}
	surfaces := []impl.Surface{
		solidSurface(80, rect(0, 0, 5, 4)), newSurface(1, 1, 1, impl.Image{W: 3, H: 2, Data: pixels[:6]}),
		newSurface(2, 3, 1, impl.Image{W: 2, H: 1, Data: pixels[2:4]}), newSurface(3, 0, 1, impl.Image{W: 3, H: 1, Data: pixels[2:5]}),
		solidSurface(81, rect(0, 0, 5, 4)), solidSurface(82, rect(0, 0, 5, 4)),
	}
	for _, back := range []int{0xff405060, 0} {
		s := scene(surfaces[1:4]...)
		s.Surfaces, s.Back = surfaces[1:4], back
		pixelsBefore, before := slices.Clone(pixels), copyOfScene(scene(surfaces...))
		want, wantPoints := impl.PaintVisible(s)
		cost := impl.PaintCost(s)
		for k := -1; k < 4; k++ {
			cover, visible := impl.CoverOf(s, k), impl.VisibleOf(s, k)
			painted, _ := impl.PaintVisible(s)
			for place := range painted.Data {
				painted.Data[place] = -5
			}
			for _, r := range []impl.Region{cover, visible} {
				for place := range r.Rects {
					r.Rects[place] = rect(-1, -1, -1, -1)
				}
				_ = append(r.Rects, rect(-2, -2, -2, -2))
			}
			_ = append(painted.Data, -6)
		}
		if got, n := impl.PaintVisible(s); !equalImages(got, want) || n != wantPoints || impl.PaintCost(s) != cost {
			t.Errorf("a change of a result is seen in %v, %d", got, n)
		}
		if !slices.Equal(pixels, pixelsBefore) || !equalScenes(scene(surfaces...), before) {
			t.Fatalf("the arguments became %v and %v", pixels, surfaces)
		}
	}
}
