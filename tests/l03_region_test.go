package tests

import (
	"math"
	"slices"
	"strings"
	"testing"

	"loop.example/g03313/impl"
)

// screenSide is written out, so that a wrong limit of the program is found.
const screenSide = 16

// screenRows draws a set of points of the screen, a row of '#' and '.' for each y.
type screenRows [screenSide]string

// drawnPoints draws the points for which inside is true.
func drawnPoints(inside func(x, y int) bool) screenRows {
	var rows screenRows
	for y := range rows {
		row := []byte(strings.Repeat(".", screenSide))
		for x := range row {
			if inside(x, y) {
				row[x] = '#'
			}
		}
		rows[y] = string(row)
	}
	return rows
}

// has reports whether a point, which may be off the screen, is in the drawing.
func (rows screenRows) has(x, y int) bool {
	return 0 <= y && y < screenSide && 0 <= x && x < screenSide && rows[y][x] == '#'
}

// area counts the points of the drawing.
func (rows screenRows) area() int {
	return strings.Count(strings.Join(rows[:], ""), "#")
}

// runsOfRow returns the maximal runs of a row as rectangles of height 1.
func runsOfRow(row string, y int) []impl.Rect {
	var runs []impl.Rect
	for x := 0; x < len(row); {
		if length := len(row[x:]) - len(strings.TrimLeft(row[x:], "#")); length > 0 {
			runs = append(runs, rect(x, y, length, 1))
			x += length
			continue
		}
		x++
	}
	return runs
}

// form finds the canonical form of the drawing: a row that is like the one above it makes the
// rectangles of that band higher.
func (rows screenRows) form() []impl.Rect {
	var list []impl.Rect
	for y, row := range rows {
		runs := runsOfRow(row, y)
		if y == 0 || rows[y-1] != row {
			list = append(list, runs...)
			continue
		}
		for i := range runs {
			list[len(list)-1-i].H++
		}
	}
	return list
}

// bounds finds the smallest rectangle around the points of the drawing.
func (rows screenRows) bounds() impl.Rect {
	left, top, right, bottom := screenSide, screenSide, -1, -1
	for y := range screenSide {
		for x := range screenSide {
			if rows.has(x, y) {
				left, top, right, bottom = min(left, x), min(top, y), max(right, x), max(bottom, y)
			}
		}
	}
	if right < 0 {
		return impl.Rect{}
	}
	return rect(left, top, right-left+1, bottom-top+1)
}

// drawnRects draws the points of the valid rectangles of a list by their definition.
func drawnRects(list []impl.Rect) screenRows {
	return drawnPoints(func(x, y int) bool {
		return slices.ContainsFunc(list, func(r impl.Rect) bool {
			return impl.RectOk(r) && r.X <= x && x < r.X+r.W && r.Y <= y && y < r.Y+r.H
		})
	})
}

// region writes a region on one line of a table.
func region(list ...impl.Rect) impl.Region {
	return impl.Region{Rects: list}
}

// sameForm reports whether two regions have the same rectangles; a nil slice is an empty one.
func sameForm(a, b impl.Region) bool {
	return slices.Equal(a.Rects, b.Rects)
}

// smallDrawings are all sets of points of a field of width w and height h at (x, y).
func smallDrawings(x, y, w, h int) []screenRows {
	var list []screenRows
	for set := range 1 << (w * h) {
		list = append(list, drawnPoints(func(px, py int) bool {
			return x <= px && px < x+w && y <= py && py < y+h && set>>((py-y)*w+px-x)&1 == 1
		}))
	}
	return list
}

// largeDrawings are patterns that use the whole screen.
func largeDrawings() []screenRows {
	const last = screenSide - 1
	return []screenRows{
		drawnPoints(func(x, y int) bool { return true }),
		drawnPoints(func(x, y int) bool { return (x+y)%2 == 0 }),
		drawnPoints(func(x, y int) bool { return x%2 == 0 }),
		drawnPoints(func(x, y int) bool { return x%2 == 1 }),
		drawnPoints(func(x, y int) bool { return y%2 == 0 }),
		drawnPoints(func(x, y int) bool { return y%2 == 1 }),
		drawnPoints(func(x, y int) bool { return x == y }),
		drawnPoints(func(x, y int) bool { return x+y >= last }),
		drawnPoints(func(x, y int) bool { return x == 0 || y == 0 || x == last || y == last }),
		drawnPoints(func(x, y int) bool { return (x == 0 || x == last) && (y == 0 || y == last) }),
		drawnPoints(func(x, y int) bool { return y == 0 || y == last }),
		drawnPoints(func(x, y int) bool { return x == 0 || x == last }),
		drawnPoints(func(x, y int) bool { return y/4%2 == 0 && x/3%2 == 1 }),
		drawnPoints(func(x, y int) bool { return (x*x+3*y*y+x*y)%7 < 3 }),
		drawnPoints(func(x, y int) bool { return (5*x*x+y*y*y+x)%11 < 6 }),
	}
}

// invalidRegions are lists of rectangles that are not in canonical form.
func invalidRegions() []impl.Region {
	list := []impl.Region{
		region(impl.Rect{}), region(rect(3, 3, 0, 2)), region(rect(3, 3, 2, 0)),
		region(rect(1, 1, 2, 2), impl.Rect{}), region(impl.Rect{}, rect(1, 1, 2, 2)),
		region(rect(0, 0, 1, 1), rect(1, 0, 1, 1)), region(rect(0, 0, 1, 1), rect(0, 1, 1, 1)),
		region(rect(2, 2, 3, 3), rect(2, 2, 3, 3)), region(rect(2, 2, 3, 3), rect(3, 3, 1, 1)),
		region(rect(0, 0, 3, 2), rect(2, 1, 3, 2)), region(rect(0, 0, 2, 1), rect(1, 0, 2, 1)),
		region(rect(4, 0, 1, 1), rect(0, 0, 1, 1)), region(rect(0, 4, 1, 1), rect(0, 0, 1, 1)),
		region(rect(0, 0, 1, 2), rect(2, 0, 1, 1)), region(rect(0, 0, 1, 1), rect(2, 0, 1, 2)),
		region(rect(0, 0, 1, 1), rect(2, 0, 1, 1), rect(0, 1, 1, 1), rect(2, 1, 1, 1)),
		region(rect(0, 0, 1, 2), rect(1, 1, 1, 1)), region(rect(0, 0, 1, 1), rect(0, 0, 2, 1)),
		region(rect(0, 0, 17, 1)), region(rect(0, 0, 1, 17)), region(rect(15, 0, 2, 1)), region(rect(0, 15, 1, 2)),
		region(rect(-1, 0, 2, 1)), region(rect(0, -1, 1, 2)), region(rect(16, 0, 1, 1)), region(rect(0, 16, 1, 1)),
		region(rect(-1, -1, 1, 1)), region(rect(0, 0, 1, 1), rect(20, 0, 1, 1)), region(rect(0, 0, 1000, 1000)),
	}
	for _, r := range invalidRects() {
		list = append(list, region(r), region(rect(0, 0, 1, 1), r), region(r, rect(5, 5, 2, 2)))
	}
	return list
}

// checkRegion checks the form of a region, and that each function finds the points that were drawn.
func checkRegion(t *testing.T, got impl.Region, want screenRows) {
	t.Helper()
	if !slices.Equal(got.Rects, want.form()) {
		t.Fatalf("region %v; want %v", got, want.form())
	}
	if !impl.RegionOk(got) {
		t.Errorf("RegionOk(%v) is false", got)
	}
	if area := impl.AreaOf(got); area != want.area() {
		t.Errorf("AreaOf(%v) = %d; want %d", got, area, want.area())
	}
	if bounds := impl.BoundsOf(got); bounds != want.bounds() {
		t.Errorf("BoundsOf(%v) = %v; want %v", got, bounds, want.bounds())
	}
}

// checkPoints checks each point of the screen and those around it.
func checkPoints(t *testing.T, got impl.Region, want screenRows) {
	t.Helper()
	for y := -2; y < screenSide+2; y++ {
		for x := -2; x < screenSide+2; x++ {
			if impl.InRegion(got, x, y) != want.has(x, y) {
				t.Errorf("InRegion(%v, %d, %d) is %v", got, x, y, !want.has(x, y))
			}
		}
	}
}

func TestRegionOfHasItsCanonicalForm(t *testing.T) {
	if impl.MaxScreen != screenSide {
		t.Fatalf("MaxScreen is %d", impl.MaxScreen)
	}
	cases := []struct {
		name       string
		list, want []impl.Rect
	}{
		{"nothing", nil, nil},
		{"an empty list", []impl.Rect{}, nil},
		{"one rectangle", []impl.Rect{rect(2, 3, 4, 5)}, []impl.Rect{rect(2, 3, 4, 5)}},
		{"the same one twice", []impl.Rect{rect(2, 3, 4, 5), rect(2, 3, 4, 5)}, []impl.Rect{rect(2, 3, 4, 5)}},
		{"one inside another", []impl.Rect{rect(3, 4, 2, 2), rect(2, 3, 4, 5)}, []impl.Rect{rect(2, 3, 4, 5)}},
		{"overlapping", []impl.Rect{rect(0, 0, 3, 2), rect(2, 1, 3, 2)}, []impl.Rect{rect(0, 0, 3, 1), rect(0, 1, 5, 1), rect(2, 2, 3, 1)}},
		{"a cross", []impl.Rect{rect(0, 2, 5, 1), rect(2, 0, 1, 5)}, []impl.Rect{rect(2, 0, 1, 2), rect(0, 2, 5, 1), rect(2, 3, 1, 2)}},
		{"touching side by side", []impl.Rect{rect(3, 1, 2, 4), rect(1, 1, 2, 4)}, []impl.Rect{rect(1, 1, 4, 4)}},
		{"touching above one another", []impl.Rect{rect(1, 5, 2, 4), rect(1, 1, 2, 4)}, []impl.Rect{rect(1, 1, 2, 8)}},
		{"touching at a corner", []impl.Rect{rect(2, 2, 2, 2), rect(0, 0, 2, 2)}, []impl.Rect{rect(0, 0, 2, 2), rect(2, 2, 2, 2)}},
		{"apart in a row", []impl.Rect{rect(9, 1, 1, 2), rect(1, 1, 1, 2)}, []impl.Rect{rect(1, 1, 1, 2), rect(9, 1, 1, 2)}},
		{"apart in a column, with equal x", []impl.Rect{rect(1, 9, 3, 1), rect(1, 1, 3, 2)}, []impl.Rect{rect(1, 1, 3, 2), rect(1, 9, 3, 1)}},
		{"bands that can be joined only in part", []impl.Rect{rect(0, 0, 2, 3), rect(4, 1, 2, 1)}, []impl.Rect{rect(0, 0, 2, 1), rect(0, 1, 2, 1), rect(4, 1, 2, 1), rect(0, 2, 2, 1)}},
		{"bands of several runs that are joined", []impl.Rect{rect(0, 0, 1, 1), rect(2, 0, 1, 1), rect(0, 1, 1, 1), rect(2, 1, 1, 1)}, []impl.Rect{rect(0, 0, 1, 2), rect(2, 0, 1, 2)}},
		{"a gap that is filled", []impl.Rect{rect(0, 0, 1, 2), rect(2, 0, 1, 2), rect(1, 0, 1, 2)}, []impl.Rect{rect(0, 0, 3, 2)}},
		{"the whole screen", []impl.Rect{rect(0, 0, 16, 16)}, []impl.Rect{rect(0, 0, 16, 16)}},
		{"larger than the screen", []impl.Rect{rect(-500, -500, 1000, 1000)}, []impl.Rect{rect(0, 0, 16, 16)}},
		{"the last point", []impl.Rect{rect(15, 15, 1000, 1000)}, []impl.Rect{rect(15, 15, 1, 1)}},
		{"the first point", []impl.Rect{rect(-999, -999, 1000, 1000)}, []impl.Rect{rect(0, 0, 1, 1)}},
		{"over the left side", []impl.Rect{rect(-3, 4, 5, 2)}, []impl.Rect{rect(0, 4, 2, 2)}},
		{"over the lower side", []impl.Rect{rect(4, 14, 5, 9)}, []impl.Rect{rect(4, 14, 5, 2)}},
		{"off the screen", []impl.Rect{rect(16, 0, 9, 9), rect(0, 16, 9, 9), rect(-9, 0, 9, 9), rect(0, -9, 9, 9), rect(1000, 1000, 1000, 1000)}, nil},
		{"empty rectangles", []impl.Rect{{}, rect(3, 3, 0, 4), rect(3, 3, 4, 0)}, nil},
		{"an empty one between others", []impl.Rect{rect(0, 0, 2, 2), rect(1, 1, 0, 9), rect(5, 0, 2, 2)}, []impl.Rect{rect(0, 0, 2, 2), rect(5, 0, 2, 2)}},
		{"invalid ones", invalidRects(), nil},
		{"a valid one among invalid ones", append(invalidRects(), rect(1, 2, 3, 4)), []impl.Rect{rect(1, 2, 3, 4)}},
	}
	for _, c := range cases {
		if got := impl.RegionOf(c.list); !slices.Equal(got.Rects, c.want) {
			t.Errorf("%s: RegionOf(%v) = %v; want %v", c.name, c.list, got, c.want)
		}
	}
}

// TestEqualSetsHaveEqualForms builds each small set at two corners of the screen from its points,
// once in their order and once backwards with wide rectangles added.
func TestEqualSetsHaveEqualForms(t *testing.T) {
	for _, corner := range []int{0, screenSide - 3} {
		forms := map[string]bool{}
		for _, want := range smallDrawings(corner, corner, 3, 3) {
			var points, wide []impl.Rect
			for y := range screenSide {
				for x := range screenSide {
					if want.has(x, y) {
						points = append(points, rect(x, y, 1, 1))
					}
				}
				wide = append(wide, runsOfRow(want[y], y)...)
			}
			slices.Reverse(points)
			got := impl.RegionOf(points)
			checkRegion(t, got, want)
			if other := impl.RegionOf(append(wide, points...)); !sameForm(got, other) {
				t.Errorf("RegionOf the same points is %v and %v", got, other)
			}
			forms[textOfRects(got.Rects)] = true
		}
		if len(forms) != 512 {
			t.Errorf("512 sets have %d forms", len(forms))
		}
	}
}

// textOfRects writes a list of rectangles of the screen as a key of a map.
func textOfRects(list []impl.Rect) string {
	var text []byte
	for _, r := range list {
		text = append(text, byte(r.X), byte(r.Y), byte(r.W), byte(r.H))
	}
	return string(text)
}

func TestRegionsOfTheWholeScreen(t *testing.T) {
	for _, want := range largeDrawings() {
		var points []impl.Rect
		for x := range screenSide {
			for y := range screenSide {
				if want.has(x, y) {
					points = append(points, rect(x, y, 1, 1))
				}
			}
		}
		got := impl.RegionOf(points)
		checkRegion(t, got, want)
		checkPoints(t, got, want)
		if again := impl.RegionOf(got.Rects); !sameForm(again, got) {
			t.Errorf("RegionOf(%v) is another region: %v", got.Rects, again)
		}
	}
}

// TestRegionsOfPairs builds regions of each pair of small rectangles, many of which lie off the
// screen in part, and finds out whether the pair itself is in canonical form.
func TestRegionsOfPairs(t *testing.T) {
	var list []impl.Rect
	for _, r := range smallRects() {
		if r.X >= -1 && r.Y >= -1 {
			list = append(list, r, impl.Moved(r, screenSide-2, screenSide-2))
		}
	}
	for _, a := range list {
		for _, b := range list {
			pair := []impl.Rect{a, b}
			want := drawnRects(pair).form()
			if got := impl.RegionOf(pair); !slices.Equal(got.Rects, want) {
				t.Errorf("RegionOf(%v) = %v; want %v", pair, got, want)
			}
			if got := impl.RegionOk(region(pair...)); got != slices.Equal(pair, want) {
				t.Errorf("RegionOk(%v) = %v", pair, got)
			}
		}
	}
}

func TestOnlyCanonicalFormsAreValid(t *testing.T) {
	for _, r := range []impl.Region{{}, {Rects: []impl.Rect{}}, region(rect(0, 0, 16, 16)), region(rect(15, 15, 1, 1))} {
		if !impl.RegionOk(r) {
			t.Errorf("RegionOk(%v) is false", r)
		}
	}
	for _, r := range invalidRegions() {
		if impl.RegionOk(r) {
			t.Errorf("RegionOk(%v) is true", r)
		}
	}
	for _, rows := range largeDrawings() {
		form := rows.form()
		for i := range form {
			shorter := region(slices.Delete(slices.Clone(form), i, i+1)...)
			if got := impl.RegionOk(shorter); got != sameForm(shorter, region(drawnRects(shorter.Rects).form()...)) {
				t.Errorf("RegionOk(%v) = %v", shorter, got)
			}
			if twice := region(slices.Insert(slices.Clone(form), i, form[i])...); impl.RegionOk(twice) {
				t.Errorf("RegionOk(%v) is true, with one rectangle twice", twice)
			}
			if turned := append(slices.Clone(form[i:]), form[:i]...); i > 0 && impl.RegionOk(region(turned...)) {
				t.Errorf("RegionOk(%v) is true in another order", turned)
			}
		}
	}
}

func TestInRegionFindsThePointsOfARegion(t *testing.T) {
	drawings := append(smallDrawings(0, 0, 2, 2), smallDrawings(14, 14, 2, 2)...)
	for _, want := range append(drawings, smallDrawings(6, 9, 3, 2)...) {
		checkPoints(t, region(want.form()...), want)
	}
	whole := region(rect(0, 0, 16, 16))
	for _, far := range []int{math.MinInt, -1000, -1, 16, 1000, math.MaxInt} {
		if impl.InRegion(whole, far, 0) || impl.InRegion(whole, 0, far) || impl.InRegion(whole, far, far) {
			t.Errorf("the screen contains points at %d", far)
		}
	}
}

// checkPair checks the three combinations of two regions against their points.
func checkPair(t *testing.T, a, b screenRows) {
	t.Helper()
	ra, rb := region(a.form()...), region(b.form()...)
	cases := []struct {
		name string
		got  impl.Region
		want func(x, y int) bool
	}{
		{"UnionOf", impl.UnionOf(ra, rb), func(x, y int) bool { return a.has(x, y) || b.has(x, y) }},
		{"CommonOf", impl.CommonOf(ra, rb), func(x, y int) bool { return a.has(x, y) && b.has(x, y) }},
		{"WithoutOf", impl.WithoutOf(ra, rb), func(x, y int) bool { return a.has(x, y) && !b.has(x, y) }},
	}
	for _, c := range cases {
		if want := drawnPoints(c.want).form(); !slices.Equal(c.got.Rects, want) {
			t.Errorf("%s(%v, %v) = %v; want %v", c.name, ra, rb, c.got, want)
		}
	}
}

func TestRegionsAreCombinedAsSets(t *testing.T) {
	small := append(smallDrawings(0, 0, 2, 2), smallDrawings(13, 14, 3, 2)...)
	large := largeDrawings()
	for _, list := range [][]screenRows{small, large} {
		for _, a := range list {
			for _, b := range list {
				checkPair(t, a, b)
			}
		}
	}
	for i, a := range smallDrawings(5, 7, 2, 3) {
		checkPair(t, a, large[i%len(large)])
		checkPair(t, large[i%len(large)], a)
	}
}

func TestCombinedRegions(t *testing.T) {
	square := region(rect(1, 1, 4, 4))
	hole := region(rect(1, 1, 4, 1), rect(1, 2, 1, 2), rect(4, 2, 1, 2), rect(1, 4, 4, 1))
	inner := region(rect(2, 2, 2, 2))
	cases := []struct{ name, got, want string }{
		{"a hole", textOfRects(impl.WithoutOf(square, inner).Rects), textOfRects(hole.Rects)},
		{"the hole filled", textOfRects(impl.UnionOf(hole, inner).Rects), textOfRects(square.Rects)},
		{"the hole has nothing in common", textOfRects(impl.CommonOf(hole, inner).Rects), ""},
		{"the square has all in common", textOfRects(impl.CommonOf(square, hole).Rects), textOfRects(hole.Rects)},
		{"nothing is left of itself", textOfRects(impl.WithoutOf(hole, hole).Rects), ""},
		{"nothing added", textOfRects(impl.UnionOf(hole, impl.Region{}).Rects), textOfRects(hole.Rects)},
		{"nothing removed", textOfRects(impl.WithoutOf(hole, impl.Region{}).Rects), textOfRects(hole.Rects)},
		{"nothing without a region", textOfRects(impl.WithoutOf(impl.Region{}, hole).Rects), ""},
	}
	for _, c := range cases {
		if c.got != c.want {
			t.Errorf("%s: %q; want %q", c.name, c.got, c.want)
		}
	}
}

func TestFunctionsOfInvalidRegions(t *testing.T) {
	others := []impl.Region{{}, region(rect(0, 0, 16, 16)), region(rect(1, 1, 2, 2), rect(5, 1, 2, 2)), region(rect(9, 9, -1, 1))}
	for _, r := range invalidRegions() {
		if impl.AreaOf(r) != 0 || impl.BoundsOf(r) != (impl.Rect{}) {
			t.Errorf("%v has the area %d and bounds %v", r, impl.AreaOf(r), impl.BoundsOf(r))
		}
		for _, place := range [][2]int{{0, 0}, {1, 1}, {2, 2}, {3, 3}, {5, 5}, {15, 0}, {0, 15}} {
			if impl.InRegion(r, place[0], place[1]) {
				t.Errorf("InRegion(%v, %d, %d) is true", r, place[0], place[1])
			}
		}
		for _, other := range others {
			for _, pair := range [][2]impl.Region{{r, other}, {other, r}} {
				union, common, without := impl.UnionOf(pair[0], pair[1]), impl.CommonOf(pair[0], pair[1]), impl.WithoutOf(pair[0], pair[1])
				if len(union.Rects)+len(common.Rects)+len(without.Rects) > 0 {
					t.Errorf("%v and %v are combined to %v, %v and %v", pair[0], pair[1], union, common, without)
				}
			}
		}
	}
}

// TestRegionsShareNoMemory calls each function with lists in front of spare capacity that holds
// other rectangles, and changes the results.
func TestRegionsShareNoMemory(t *testing.T) {
	memory := []impl.Rect{rect(1, 1, 2, 2), rect(5, 1, 2, 2), rect(7, 8, 9, 1), rect(2, 9, 1, 3)}
	before := slices.Clone(memory)
	a, b := region(memory[:2]...), region(memory[3:]...)
	results := []impl.Region{
		impl.RegionOf(memory[:2]), impl.UnionOf(a, b), impl.UnionOf(a, impl.Region{}), impl.UnionOf(a, a),
		impl.CommonOf(a, a), impl.WithoutOf(a, b), impl.WithoutOf(a, impl.Region{}),
	}
	impl.RegionOk(a)
	impl.InRegion(a, 1, 1)
	impl.AreaOf(a)
	impl.BoundsOf(a)
	for _, r := range results {
		for i := range r.Rects {
			r.Rects[i] = rect(-1, -1, -1, -1)
		}
	}
	if !slices.Equal(memory, before) {
		t.Errorf("the arguments became %v", memory)
	}
}
