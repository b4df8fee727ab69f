package tests

import (
	"math"
	"testing"

	"loop.example/g03313/impl"
)

// rect writes a rectangle on one line of a table.
func rect(x, y, w, h int) impl.Rect {
	return impl.Rect{X: x, Y: y, W: w, H: h}
}

// invalidRects are rectangles with one field outside of its range, or several.
func invalidRects() []impl.Rect {
	const most = impl.MaxCoordinate
	return []impl.Rect{
		rect(most+1, 0, 1, 1), rect(-most-1, 0, 1, 1),
		rect(0, most+1, 1, 1), rect(0, -most-1, 1, 1),
		rect(0, 0, most+1, 1), rect(0, 0, -1, 1),
		rect(0, 0, 1, most+1), rect(0, 0, 1, -1),
		rect(0, 0, -1, 0), rect(0, 0, 0, -1), rect(-2, -2, -3, -3),
		rect(most+1, 0, 0, 0), rect(0, -most-1, 0, 0),
		rect(math.MaxInt, 0, 1, 1), rect(math.MinInt, 0, 1, 1),
		rect(0, math.MaxInt, 1, 1), rect(0, math.MinInt, 1, 1),
		rect(0, 0, math.MaxInt, 1), rect(0, 0, math.MinInt, 1),
		rect(0, 0, 1, math.MaxInt), rect(0, 0, 1, math.MinInt),
		rect(math.MaxInt, math.MaxInt, math.MaxInt, math.MaxInt),
		rect(math.MinInt, math.MinInt, math.MinInt, math.MinInt),
	}
}

// smallRects are all rectangles with corners from -2 to 1 and sides from 0 to 3.
func smallRects() []impl.Rect {
	var list []impl.Rect
	for x := -2; x <= 1; x++ {
		for y := -2; y <= 1; y++ {
			for w := range 4 {
				for h := range 4 {
					list = append(list, rect(x, y, w, h))
				}
			}
		}
	}
	return list
}

// fieldSide is the side of the field of points around those of smallRects.
const fieldSide = 8

// pointSet tells for each point of the field, which begins at (-3, -3), whether it is in a set.
type pointSet [fieldSide][fieldSide]bool

// pointsOf finds the points of a rectangle of the field by their definition.
func pointsOf(r impl.Rect) pointSet {
	var set pointSet
	for y := range fieldSide {
		for x := range fieldSide {
			set[y][x] = r.X <= x-3 && x-3 < r.X+r.W && r.Y <= y-3 && y-3 < r.Y+r.H
		}
	}
	return set
}

// commonPoints returns the points that are in both sets.
func commonPoints(a, b pointSet) pointSet {
	for y := range fieldSide {
		for x := range fieldSide {
			a[y][x] = a[y][x] && b[y][x]
		}
	}
	return a
}

// boundsOfPoints returns the smallest rectangle around all points of both sets.
func boundsOfPoints(a, b pointSet) impl.Rect {
	left, top, right, bottom := fieldSide, fieldSide, -1, -1
	for y := range fieldSide {
		for x := range fieldSide {
			if a[y][x] || b[y][x] {
				left, top, right, bottom = min(left, x), min(top, y), max(right, x), max(bottom, y)
			}
		}
	}
	if right < 0 {
		return impl.Rect{}
	}
	return rect(left-3, top-3, right-left+1, bottom-top+1)
}

// checkBothOrders checks a function whose result does not depend on the order of its arguments.
func checkBothOrders(t *testing.T, name string, f func(a, b impl.Rect) impl.Rect, a, b, want impl.Rect) {
	t.Helper()
	if got := f(a, b); got != want {
		t.Errorf("%s(%v, %v) = %v; want %v", name, a, b, got, want)
	}
	if got := f(b, a); got != want {
		t.Errorf("%s(%v, %v) = %v; want %v", name, b, a, got, want)
	}
}

func TestRectLimits(t *testing.T) {
	const most = impl.MaxCoordinate
	if most != 1000 {
		t.Errorf("MaxCoordinate is %d", most)
	}
	valid := []impl.Rect{
		{}, rect(1, 2, 3, 4), rect(-7, -8, 0, 5), rect(0, 0, 5, 0),
		rect(most, 0, 1, 1), rect(-most, 0, 1, 1), rect(0, most, 1, 1), rect(0, -most, 1, 1),
		rect(0, 0, most, 1), rect(0, 0, 1, most),
		rect(most, most, most, most), rect(-most, -most, most, most), rect(most, -most, 0, 0),
	}
	for _, r := range valid {
		if !impl.RectOk(r) {
			t.Errorf("RectOk(%v) is false", r)
		}
	}
	for _, r := range invalidRects() {
		if impl.RectOk(r) {
			t.Errorf("RectOk(%v) is true", r)
		}
	}
}

func TestHasPointFindsThePointsOfARectangle(t *testing.T) {
	for _, r := range smallRects() {
		points := pointsOf(r)
		for y := range fieldSide {
			for x := range fieldSide {
				if got := impl.HasPoint(r, x-3, y-3); got != points[y][x] {
					t.Errorf("HasPoint(%v, %d, %d) = %v", r, x-3, y-3, got)
				}
			}
		}
	}
}

func TestHasPointAtTheLimits(t *testing.T) {
	const most = impl.MaxCoordinate
	low, high := rect(-most, -most, most, most), rect(most, most, most, most)
	cases := []struct {
		r    impl.Rect
		x, y int
		want bool
	}{
		{low, -most, -most, true}, {low, -1, -1, true}, {low, 0, -1, false}, {low, -1, 0, false},
		{low, -most - 1, -most, false}, {low, -most, -most - 1, false},
		{high, most, most, true}, {high, 2*most - 1, 2*most - 1, true}, {high, 2 * most, most, false},
		{high, most, 2 * most, false}, {high, most - 1, most, false}, {high, most, most - 1, false},
		{high, math.MaxInt, math.MaxInt, false}, {low, math.MinInt, math.MinInt, false},
		{rect(0, 0, 5, 0), 0, 0, false}, {rect(0, 0, 0, 5), 0, 0, false}, {impl.Rect{}, 0, 0, false},
	}
	for _, c := range cases {
		if got := impl.HasPoint(c.r, c.x, c.y); got != c.want {
			t.Errorf("HasPoint(%v, %d, %d) = %v", c.r, c.x, c.y, got)
		}
	}
}

func TestInvalidRectsHaveNoPoints(t *testing.T) {
	for _, r := range invalidRects() {
		for _, x := range []int{r.X - 1, r.X, r.X + r.W - 1, 0, -1} {
			for _, y := range []int{r.Y - 1, r.Y, r.Y + r.H - 1, 0, -1} {
				if impl.HasPoint(r, x, y) {
					t.Errorf("HasPoint(%v, %d, %d) is true", r, x, y)
				}
			}
		}
	}
}

// TestRectsAreThoseOfTheirPoints checks each pair of small rectangles, those that are empty,
// touch, do not meet, or lie within one another among them, against their sets of points.
func TestRectsAreThoseOfTheirPoints(t *testing.T) {
	list := smallRects()
	sets := make([]pointSet, len(list))
	for i, r := range list {
		sets[i] = pointsOf(r)
	}
	for i, a := range list {
		for j, b := range list {
			common := commonPoints(sets[i], sets[j])
			if got, want := impl.Intersect(a, b), boundsOfPoints(common, common); got != want || pointsOf(got) != common {
				t.Errorf("Intersect(%v, %v) = %v; want %v", a, b, got, want)
			}
			if got, want := impl.Bounds(a, b), boundsOfPoints(sets[i], sets[j]); got != want {
				t.Errorf("Bounds(%v, %v) = %v; want %v", a, b, got, want)
			}
			if got, want := impl.Covers(a, b), common == sets[j]; got != want {
				t.Errorf("Covers(%v, %v) = %v", a, b, got)
			}
		}
	}
}

func TestIntersect(t *testing.T) {
	const most = impl.MaxCoordinate
	cases := []struct{ a, b, want impl.Rect }{
		{rect(1, 2, 4, 3), rect(3, 0, 4, 4), rect(3, 2, 2, 2)},
		{rect(0, 0, 10, 10), rect(2, 3, 4, 5), rect(2, 3, 4, 5)},
		{rect(0, 4, 10, 2), rect(4, 0, 2, 10), rect(4, 4, 2, 2)},
		{rect(-5, -5, 4, 4), rect(-3, -4, 9, 1), rect(-3, -4, 2, 1)},
		{rect(0, 0, 5, 5), rect(5, 0, 5, 5), impl.Rect{}},
		{rect(0, 0, 5, 5), rect(0, 5, 5, 5), impl.Rect{}},
		{rect(0, 0, 5, 5), rect(5, 5, 5, 5), impl.Rect{}},
		{rect(0, 0, 5, 5), rect(9, 1, 2, 2), impl.Rect{}},
		{rect(1, 1, 5, 5), rect(2, 2, 0, 3), impl.Rect{}},
		{rect(1, 1, 5, 5), rect(2, 2, 3, 0), impl.Rect{}},
		{rect(2, 2, 3, 0), rect(2, 2, 3, 0), impl.Rect{}},
		{rect(-most, -most, most, most), rect(-1, -1, most, most), rect(-1, -1, 1, 1)},
		{rect(most, most, most, most), rect(1, 1, most, most), rect(most, most, 1, 1)},
		{rect(most, most, most, most), rect(most, most, most, most), rect(most, most, most, most)},
	}
	for _, c := range cases {
		checkBothOrders(t, "Intersect", impl.Intersect, c.a, c.b, c.want)
	}
}

func TestBounds(t *testing.T) {
	const most = impl.MaxCoordinate
	cases := []struct{ a, b, want impl.Rect }{
		{rect(1, 2, 4, 3), rect(3, 0, 4, 4), rect(1, 0, 6, 5)},
		{rect(0, 0, 10, 10), rect(2, 3, 4, 5), rect(0, 0, 10, 10)},
		{rect(-9, -8, 1, 1), rect(6, 7, 2, 3), rect(-9, -8, 17, 18)},
		{rect(0, 0, 5, 5), rect(5, 0, 5, 5), rect(0, 0, 10, 5)},
		{rect(most, most, most, most), rect(most, most, 1, 1), rect(most, most, most, most)},
	}
	for _, c := range cases {
		checkBothOrders(t, "Bounds", impl.Bounds, c.a, c.b, c.want)
	}
}

func TestBoundsOfEmptyRects(t *testing.T) {
	const most = impl.MaxCoordinate
	// The last two lie so far from other rectangles that bounds of their corners would not be valid.
	empty := []impl.Rect{{}, rect(3, 4, 0, 0), rect(3, 4, 0, 9), rect(-6, -7, 9, 0), rect(most, most, most, 0), rect(-most, -most, 0, most)}
	for _, e := range empty {
		for _, r := range []impl.Rect{rect(0, 0, 1, 1), rect(-2, 5, 3, 4), rect(most, most, most, most), rect(-most, -most, most, 1)} {
			checkBothOrders(t, "Bounds", impl.Bounds, e, r, r)
		}
		for _, other := range empty {
			checkBothOrders(t, "Bounds", impl.Bounds, e, other, impl.Rect{})
		}
	}
}

func TestBoundsThatAreTooLargeAreZero(t *testing.T) {
	const most = impl.MaxCoordinate
	cases := []struct{ a, b, want impl.Rect }{
		{rect(0, 0, 1, 1), rect(most-1, 0, 1, 1), rect(0, 0, most, 1)},
		{rect(0, 0, 1, 1), rect(most, 0, 1, 1), impl.Rect{}},
		{rect(0, 0, 1, 1), rect(most-1, 0, 2, 1), impl.Rect{}},
		{rect(0, 0, 1, 1), rect(0, most-1, 1, 1), rect(0, 0, 1, most)},
		{rect(0, 0, 1, 1), rect(0, most, 1, 1), impl.Rect{}},
		{rect(0, 0, 1, 1), rect(0, most-1, 1, 2), impl.Rect{}},
		{rect(-most, -most, 1, 1), rect(-1, -1, 1, 1), rect(-most, -most, most, most)},
		{rect(-most, -most, 1, 1), rect(0, -1, 1, 1), impl.Rect{}},
		{rect(-most, -most, 1, 1), rect(-1, 0, 1, 1), impl.Rect{}},
		{rect(-most, -most, most, most), rect(most, most, most, most), impl.Rect{}},
	}
	for _, c := range cases {
		checkBothOrders(t, "Bounds", impl.Bounds, c.a, c.b, c.want)
	}
}

func TestPairsWithAnInvalidRect(t *testing.T) {
	const most = impl.MaxCoordinate
	others := append(invalidRects(), impl.Rect{}, rect(0, 0, 1, 1), rect(-3, -4, 9, 9), rect(most, most, most, most), rect(2, 2, 0, 2))
	for _, r := range invalidRects() {
		for _, other := range others {
			checkBothOrders(t, "Intersect", impl.Intersect, r, other, impl.Rect{})
			checkBothOrders(t, "Bounds", impl.Bounds, r, other, impl.Rect{})
			if impl.Covers(r, other) || impl.Covers(other, r) {
				t.Errorf("one of %v and %v covers the other", r, other)
			}
		}
	}
}

func TestMoved(t *testing.T) {
	const most = impl.MaxCoordinate
	cases := []struct {
		r      impl.Rect
		dx, dy int
		want   impl.Rect
	}{
		{rect(1, 2, 4, 3), 0, 0, rect(1, 2, 4, 3)},
		{rect(1, 2, 4, 3), -2, 1, rect(-1, 3, 4, 3)},
		{rect(1, 2, 0, 3), 5, 0, rect(6, 2, 0, 3)},
		{rect(1, 2, 0, 0), 0, -5, rect(1, -3, 0, 0)},
		{rect(-most, -most, most, most), 2 * most, 2 * most, rect(most, most, most, most)},
		{rect(most, most, 1, 2), -2 * most, -2 * most, rect(-most, -most, 1, 2)},
		{rect(999, 0, 1, 1), 1, 0, rect(most, 0, 1, 1)},
		{rect(0, -999, 1, 1), 0, -1, rect(0, -most, 1, 1)},
	}
	for _, c := range cases {
		if got := impl.Moved(c.r, c.dx, c.dy); got != c.want {
			t.Errorf("Moved(%v, %d, %d) = %v; want %v", c.r, c.dx, c.dy, got, c.want)
		}
	}
}

func TestMovedLeavesARectThatCannotBeMoved(t *testing.T) {
	const most = impl.MaxCoordinate
	cases := []struct {
		r      impl.Rect
		dx, dy int
	}{
		{rect(most, 0, 1, 1), 1, 0}, {rect(-most, 0, 1, 1), -1, 0},
		{rect(0, most, 1, 1), 0, 1}, {rect(0, -most, 1, 1), 0, -1},
		{rect(5, 6, 1, 1), most - 4, 1}, {rect(5, 6, 1, 1), 1, most - 5},
		{rect(-most, -most, 1, 1), 2*most + 1, 0}, {rect(-most, -most, 1, 1), 0, 2*most + 1},
		{rect(most, most, 1, 1), -2*most - 1, 0}, {rect(most, most, 1, 1), 0, -2*most - 1},
		{rect(0, 0, 1, 1), math.MaxInt, 0}, {rect(0, 0, 1, 1), math.MinInt, 0},
		{rect(0, 0, 1, 1), 0, math.MaxInt}, {rect(0, 0, 1, 1), 0, math.MinInt},
		{rect(9, 9, 1, 1), math.MaxInt, math.MaxInt}, {rect(-9, -9, 1, 1), math.MinInt, math.MinInt},
	}
	for _, c := range cases {
		if got := impl.Moved(c.r, c.dx, c.dy); got != c.r {
			t.Errorf("Moved(%v, %d, %d) = %v; want it unchanged", c.r, c.dx, c.dy, got)
		}
	}
	for _, r := range invalidRects() {
		for _, d := range []int{-1, 1, -r.X, -r.Y, -2 * most, 2 * most} {
			if got := impl.Moved(r, d, d); got != r {
				t.Errorf("Moved(%v, %d, %d) = %v; want it unchanged", r, d, d, got)
			}
		}
	}
}

func TestMovingARectMovesItsPoints(t *testing.T) {
	for _, r := range smallRects() {
		for _, d := range [][2]int{{1, 0}, {0, 1}, {-1, -1}, {3, -7}, {-900, 900}} {
			moved := impl.Moved(r, d[0], d[1])
			for y := -3; y <= 4; y++ {
				for x := -3; x <= 4; x++ {
					if impl.HasPoint(r, x, y) != impl.HasPoint(moved, x+d[0], y+d[1]) {
						t.Errorf("Moved(%v, %d, %d) = %v has other points", r, d[0], d[1], moved)
					}
				}
			}
			if back := impl.Moved(moved, -d[0], -d[1]); back != r {
				t.Errorf("Moved(%v, %d, %d) and back is %v", r, d[0], d[1], back)
			}
		}
	}
}

func TestCovers(t *testing.T) {
	const most = impl.MaxCoordinate
	big := rect(1, 2, 4, 3)
	cases := []struct {
		a, b impl.Rect
		want bool
	}{
		{big, big, true}, {big, rect(2, 3, 3, 2), true}, {big, rect(1, 2, 1, 1), true}, {big, rect(4, 4, 1, 1), true},
		{big, rect(0, 2, 2, 1), false}, {big, rect(1, 1, 1, 2), false}, {big, rect(4, 4, 2, 1), false}, {big, rect(4, 4, 1, 2), false},
		{big, rect(5, 2, 1, 1), false}, {big, rect(1, 5, 1, 1), false}, {big, rect(0, 0, 9, 9), false}, {big, rect(9, 9, 1, 1), false},
		{big, rect(2, 2, 0, 1), true}, {big, rect(90, 90, 0, 0), true}, {big, rect(-90, 0, 5, 0), true},
		{rect(3, 3, 0, 4), rect(8, 8, 4, 0), true}, {impl.Rect{}, impl.Rect{}, true},
		{rect(3, 3, 0, 4), rect(3, 3, 1, 1), false}, {rect(3, 3, 4, 0), rect(3, 3, 1, 1), false}, {impl.Rect{}, rect(0, 0, 1, 1), false},
		{rect(most, most, most, most), rect(most, most, most, most), true},
		{rect(-most, -most, most, most), rect(-1, -1, 1, 1), true}, {rect(-most, -most, most, most), rect(-1, -1, 2, 1), false},
	}
	for _, c := range cases {
		if got := impl.Covers(c.a, c.b); got != c.want {
			t.Errorf("Covers(%v, %v) = %v", c.a, c.b, got)
		}
	}
}
