package tests

import (
	"slices"
	"testing"

	"loop.example/g03313/impl"
)

// indexById finds the place of a surface in a scene whose Ids are different; -1 if it has none.
func indexById(s impl.Scene, id int) int {
	return slices.IndexFunc(s.Surfaces, func(x impl.Surface) bool { return x.Id == id })
}

// placeById finds the SurfaceRect of a surface that a valid scene has; the zero Rect if it has none.
func placeById(s impl.Scene, id int) impl.Rect {
	if k := indexById(s, id); k >= 0 {
		return placeOf(s.Surfaces[k])
	}
	return impl.Rect{}
}

// isChanged reports whether only one of two scenes has a surface with an Id, or theirs differ.
func isChanged(a, b impl.Scene, id int) bool {
	k, n := indexById(a, id), indexById(b, id)
	if k < 0 || n < 0 {
		return k >= 0 || n >= 0
	}
	return !equalSurfaces(a.Surfaces[k], b.Surfaces[n])
}

// isReordered reports whether two scenes have surfaces with two Ids, in different orders.
func isReordered(a, b impl.Scene, id, other int) bool {
	for _, s := range []impl.Scene{a, b} {
		if indexById(s, id) < 0 || indexById(s, other) < 0 {
			return false
		}
	}
	return (indexById(a, id) < indexById(a, other)) != (indexById(b, id) < indexById(b, other))
}

// damagedPoints finds DamageOf of two valid scenes by its definition.
func damagedPoints(a, b impl.Scene) screenRows {
	onScreen := func(x, y int) bool { return x < b.W && y < b.H }
	if a.W != b.W || a.H != b.H || a.Back != b.Back {
		return drawnPoints(onScreen)
	}
	var places []impl.Rect
	var pairs [][2]impl.Rect
	for id := 1; id <= highestId; id++ {
		if isChanged(a, b, id) {
			places = append(places, placeById(a, id), placeById(b, id))
		}
		for other := 1; other < id; other++ {
			if isReordered(a, b, id, other) {
				pairs = append(pairs, [2]impl.Rect{placeById(b, id), placeById(b, other)})
			}
		}
	}
	return drawnPoints(func(x, y int) bool {
		return onScreen(x, y) && (slices.ContainsFunc(places, func(r impl.Rect) bool { return contains(r, x, y) }) ||
			slices.ContainsFunc(pairs, func(p [2]impl.Rect) bool { return contains(p[0], x, y) && contains(p[1], x, y) }))
	})
}

// checkUndamaged checks that two valid scenes of the same size look the same outside of their
// damage, and that painting the damage of the second one over the first one gives the second one.
func checkUndamaged(t *testing.T, a, b impl.Scene, damage impl.Region) {
	t.Helper()
	before, after := paintedImage(a), paintedImage(b)
	for place := range after.Data {
		if before.Data[place] != after.Data[place] && !impl.InRegion(damage, place%b.W, place/b.W) {
			t.Errorf("pixel %d of %v is %#x, and %#x in %v, outside of the damage %v", place, a, before.Data[place], after.Data[place], b, damage)
		}
	}
	if got := impl.PaintInto(impl.Paint(a), b, damage); !equalImages(got, after) {
		t.Errorf("the damage %v painted over %v gives %v; want %v", damage, a, got, after)
	}
}

// checkDamage checks the damage of two valid scenes in both directions.
func checkDamage(t *testing.T, a, b impl.Scene) {
	t.Helper()
	for _, pair := range [][2]impl.Scene{{a, b}, {b, a}} {
		got, want := impl.DamageOf(pair[0], pair[1]), damagedPoints(pair[0], pair[1])
		if !slices.Equal(got.Rects, want.form()) {
			t.Errorf("DamageOf(%v, %v) = %v; want %v", pair[0], pair[1], got, want.form())
		}
		checkRegion(t, got, want)
		if a.W == b.W && a.H == b.H {
			checkUndamaged(t, pair[0], pair[1], got)
		}
	}
}

// nextPlace is the next place in the direction of 0, or 1.
func nextPlace(n int) int {
	if n > 0 {
		return n - 1
	}
	return n + 1
}

// surfaceChange changes one field of a surface, or one number of its buffer.
type surfaceChange struct {
	name   string
	change func(x *impl.Surface)
}

// surfaceChanges leave a surface valid whose buffer is not larger than 15 by 15 pixels.
func surfaceChanges() []surfaceChange {
	return []surfaceChange{
		{"X", func(x *impl.Surface) { x.X = nextPlace(x.X) }},
		{"Y", func(x *impl.Surface) { x.Y = nextPlace(x.Y) }},
		{"the size", func(x *impl.Surface) { x.W, x.H = x.W%16+1, max(x.H, 1) }},
		{"W", func(x *impl.Surface) { x.W, x.H = x.W/2+1, max(x.H, 1) }},
		{"H", func(x *impl.Surface) { x.W, x.H = max(x.W, 1), x.H/2+1 }},
		{"Alpha", func(x *impl.Surface) { x.Alpha ^= 1 }},
		{"Orient", func(x *impl.Surface) { x.Orient ^= 1 }},
		{"Orient, mirrored", func(x *impl.Surface) { x.Orient ^= 4 }},
		{"Visible", func(x *impl.Surface) { x.Visible = !x.Visible }},
		{"the first pixel", func(x *impl.Surface) { x.Buffer.Data[0] ^= 1 }},
		{"the last pixel", func(x *impl.Surface) { x.Buffer.Data[len(x.Buffer.Data)-1] ^= 1 << 31 }},
		{"the buffer", func(x *impl.Surface) { x.Buffer = impl.NewImage(x.Buffer.W+1, x.Buffer.H, 0xff00ff00) }},
		{"its shape", func(x *impl.Surface) { x.Buffer.W, x.Buffer.H = x.Buffer.H, x.Buffer.W }},
	}
}

// damageCase has the drawing of the damage of two lists of surfaces, on a screen of 5 by 4 pixels.
type damageCase struct {
	name string
	a, b []impl.Surface
	rows string
}

func (c damageCase) check(t *testing.T) {
	t.Helper()
	a, b := letterScene(c.a...), letterScene(c.b...)
	if got := impl.DamageOf(a, b); !slices.Equal(got.Rects, writtenPoints(c.rows).form()) {
		t.Errorf("%s: DamageOf is %v; want %s", c.name, got, c.rows)
	}
	checkDamage(t, a, b)
}

func TestDamageOfFewSurfaces(t *testing.T) {
	wide, high, dot := solidSurface(1, rect(0, 1, 4, 2)), solidSurface(2, rect(2, 0, 2, 3)), solidSurface(3, rect(4, 3, 1, 1))
	moved := changedSurface(wide, func(x *impl.Surface) { x.Y = 2 })
	hidden := changedSurface(wide, func(x *impl.Surface) { x.Visible = false })
	hiddenElsewhere := changedSurface(hidden, func(x *impl.Surface) { x.X = 1 })
	renamed := changedSurface(wide, func(x *impl.Surface) { x.Id = 4 })
	faint := changedSurface(high, func(x *impl.Surface) { x.Alpha = 0 })
	list := func(surfaces ...impl.Surface) []impl.Surface { return surfaces }
	cases := []damageCase{
		{"nothing", nil, nil, ""},
		{"the same", list(wide, high), list(wide, high), ""},
		{"added", nil, list(wide), "/####/####"},
		{"added above", list(wide), list(wide, high), "..##/..##/..##"},
		{"added below", list(wide), list(high, wide), "..##/..##/..##"},
		{"added between", list(wide, dot), list(wide, high, dot), "..##/..##/..##"},
		{"removed", list(wide), nil, "/####/####"},
		{"removed below", list(wide, high), list(high), "/####/####"},
		{"removed above", list(wide, high), list(wide), "..##/..##/..##"},
		{"all removed", list(wide, high, dot), nil, "..##/####/####/....#"},
		{"moved", list(wide), list(moved), "/####/####/####"},
		{"moved far", list(dot), list(changedSurface(dot, func(x *impl.Surface) { x.X, x.Y = 0, 0 })), "#///....#"},
		{"one of two moved", list(wide, high), list(moved, high), "/####/####/####"},
		{"the upper one of two moved", list(high, wide), list(high, moved), "/####/####/####"},
		{"hidden", list(wide), list(hidden), "/####/####"},
		{"shown", list(hidden), list(wide), "/####/####"},
		{"moved while hidden", list(hidden), list(hiddenElsewhere), ""},
		{"shown elsewhere", list(hiddenElsewhere), list(wide), "/####/####"},
		{"added and hidden", nil, list(hidden), ""},
		{"removed while hidden", list(hidden, dot), list(dot), ""},
		{"with another Id", list(wide), list(renamed), "/####/####"},
		{"one more with another Id", list(wide), list(wide, renamed), "/####/####"},
		{"faded", list(high), list(faint), "..##/..##/..##"},
		{"added, but faded", nil, list(faint), "..##/..##/..##"},
		{"replaced", list(wide), list(dot), "/####/####/....#"},
	}
	for _, c := range cases {
		c.check(t)
	}
}

func TestDamageOfOtherOrders(t *testing.T) {
	wide, high, dot := solidSurface(1, rect(0, 1, 4, 2)), solidSurface(2, rect(2, 0, 2, 3)), solidSurface(3, rect(4, 3, 1, 1))
	corner := solidSurface(4, rect(-3, -3, 4, 5))
	movedHigh := changedSurface(high, func(x *impl.Surface) { x.X = 3 })
	movedAway := changedSurface(high, func(x *impl.Surface) { x.X = 5 })
	hidden := changedSurface(high, func(x *impl.Surface) { x.Visible = false })
	list := func(surfaces ...impl.Surface) []impl.Surface { return surfaces }
	cases := []damageCase{
		{"two", list(wide, high), list(high, wide), "/..##/..##"},
		{"two without common points", list(wide, dot), list(dot, wide), ""},
		{"two with common points in one row", list(corner, wide), list(wide, corner), "/#"},
		{"two that are the same as before", list(wide, high, dot), list(wide, high, dot), ""},
		{"one raised over two", list(wide, high, corner), list(high, corner, wide), "/#.##/..##"},
		{"one raised over one", list(wide, high, corner), list(high, wide, corner), "/..##/..##"},
		{"one lowered below two", list(wide, corner, high), list(high, wide, corner), "/..##/..##"},
		{"three turned around", list(wide, corner, high), list(high, corner, wide), "/#.##/..##"},
		{"two with one between", list(wide, dot, high), list(high, dot, wide), "/..##/..##"},
		{"with one removed from below", list(corner, wide, high), list(high, wide), "#/#.##/..##"},
		{"with one removed from between", list(wide, dot, high), list(high, wide), "/..##/..##/....#"},
		{"with one added between", list(wide, high), list(high, dot, wide), "/..##/..##/....#"},
		{"one removed above", list(wide, high), list(wide), "..##/..##/..##"},
		{"one moved", list(wide, high), list(movedHigh, wide), "..###/..###/..###"},
		{"one moved away", list(wide, high), list(movedAway, wide), "..##/..##/..##"},
		{"one hidden", list(wide, hidden), list(hidden, wide), ""},
		{"one hidden before", list(wide, hidden), list(high, wide), "..##/..##/..##"},
		{"one that is added again with another Id", list(wide, high), list(changedSurface(high, func(x *impl.Surface) { x.Id = 9 }), wide), "..##/..##/..##"},
	}
	for _, c := range cases {
		c.check(t)
	}
}

// TestDamageAtTheSidesOfTheScreen changes and reorders surfaces that are partly off the screen.
func TestDamageAtTheSidesOfTheScreen(t *testing.T) {
	all := faintSurface(9, rect(-2, -2, 16, 16))
	for y := -7; y <= 7; y++ {
		for x := -7; x <= 7; x++ {
			s := solidSurface(5, rect(x, y, 4, 3))
			rows := drawnPoints(func(px, py int) bool { return px < 5 && py < 4 && contains(rect(x, y, 4, 3), px, py) })
			lists := [][2][]impl.Surface{
				{nil, {s}}, {{all}, {s, all}}, {{all, s}, {s, all}}, {{all, s}, {all, faintSurface(5, rect(x, y, 4, 3))}},
			}
			for _, pair := range lists {
				a, b := letterScene(pair[0]...), letterScene(pair[1]...)
				if got := impl.DamageOf(a, b); !slices.Equal(got.Rects, rows.form()) {
					t.Errorf("DamageOf(%v, %v) = %v; want %v", a, b, got, rows.form())
				}
				checkDamage(t, a, b)
			}
		}
	}
	for _, place := range [][2]int{{32, 32}, {-32, -32}, {32, -32}, {-32, 32}, {32, 0}, {0, -32}} {
		s := solidSurface(5, rect(place[0], place[1], 16, 16))
		damageCase{"far away", []impl.Surface{all, s}, []impl.Surface{s, all}, ""}.check(t)
		damageCase{"added far away", []impl.Surface{all}, []impl.Surface{s, all}, ""}.check(t)
	}
}

// TestDamageOfTheWholeScreen has scenes of unlike sizes and Backs, with the same surfaces and with
// others: the screen of the second one counts.
func TestDamageOfTheWholeScreen(t *testing.T) {
	for _, size := range someSizes() {
		for _, other := range someSizes() {
			for _, back := range []int{0xff000000, 0xff000001} {
				for n := range 3 {
					a := impl.Scene{W: size[0], H: size[1], Back: 0xff000000, Surfaces: crowdedScene(2).Surfaces}
					b := impl.Scene{W: other[0], H: other[1], Back: back, Surfaces: crowdedScene(n + 1).Surfaces}
					checkDamage(t, a, b)
					whole := impl.RegionOf([]impl.Rect{rect(0, 0, other[0], other[1])})
					if got := impl.DamageOf(a, b); (size != other || back != a.Back) && !sameForm(got, whole) {
						t.Errorf("DamageOf(%v, %v) = %v", a, b, got)
					}
				}
			}
		}
	}
	for bit := range 24 {
		a := letterScene(solidSurface(1, rect(0, 0, 5, 4)))
		b := changedScene(a, func(x *impl.Scene) { x.Back ^= 1 << bit })
		if got := impl.DamageOf(a, b); !sameForm(got, region(rect(0, 0, 5, 4))) {
			t.Errorf("with bit %d of Back, the damage is %v", bit, got)
		}
	}
}

// TestDamageOfEachField changes each surface of each scene in one field.
func TestDamageOfEachField(t *testing.T) {
	for _, s := range validScenes() {
		for k, surface := range s.Surfaces {
			for _, c := range surfaceChanges() {
				if max(surface.Buffer.W, surface.Buffer.H) > 15 && c.name == "the buffer" {
					continue
				}
				changed := changedScene(s, func(x *impl.Scene) { c.change(&x.Surfaces[k]) })
				if !impl.SceneOk(changed) {
					t.Fatalf("with another value of %s, %v is not valid", c.name, changed.Surfaces[k])
				}
				checkDamage(t, s, changed)
			}
		}
	}
}

// TestDamageOfChangesThatCannotBeSeen changes fields that make no difference to the picture: they
// count as well.
func TestDamageOfChangesThatCannotBeSeen(t *testing.T) {
	s := newSurface(8, 1, 1, impl.NewImage(3, 3, 0xffabcdef))
	changes := []surfaceChange{
		{"Orient", func(x *impl.Surface) { x.Orient = 5 }},
		{"the size", func(x *impl.Surface) { x.W, x.H = 3, 3 }},
		{"a smaller buffer", func(x *impl.Surface) { x.W, x.H, x.Buffer = 3, 3, impl.NewImage(1, 1, 0xffabcdef) }},
	}
	for _, c := range changes {
		damageCase{c.name, []impl.Surface{s}, []impl.Surface{changedSurface(s, c.change)}, "/.###/.###/.###"}.check(t)
	}
	small := changedSurface(s, func(x *impl.Surface) { x.W, x.H = 1, 1 })
	left := changedSurface(small, func(x *impl.Surface) { x.Buffer.Data[8] = 7 })
	damageCase{"a pixel that is left out", []impl.Surface{small}, []impl.Surface{left}, "/.#"}.check(t)
	faded := changedSurface(s, func(x *impl.Surface) { x.Alpha = 0 })
	fadedToo := changedSurface(faded, func(x *impl.Surface) { x.Buffer.Data[4] = 0xff000000 })
	damageCase{"a pixel that is faded", []impl.Surface{faded}, []impl.Surface{fadedToo}, "/.###/.###/.###"}.check(t)
	cover := solidSurface(9, rect(0, 0, 5, 4))
	damageCase{"a covered surface", []impl.Surface{small, cover}, []impl.Surface{left, cover}, "/.#"}.check(t)
}

// permutations are all orders of the surfaces of a list.
func permutations(list []impl.Surface) [][]impl.Surface {
	if len(list) == 0 {
		return [][]impl.Surface{nil}
	}
	var all [][]impl.Surface
	for k := range list {
		for _, rest := range permutations(slices.Delete(slices.Clone(list), k, k+1)) {
			all = append(all, append([]impl.Surface{list[k]}, rest...))
		}
	}
	return all
}

// TestDamageOfAllOrders compares all orders of surfaces that lie over one another.
func TestDamageOfAllOrders(t *testing.T) {
	list := []impl.Surface{
		solidSurface(40, rect(0, 0, 4, 4)), faintSurface(3, rect(2, 1, 5, 2)), solidSurface(99, rect(3, 0, 2, 6)), faintSurface(12, rect(-1, 3, 6, 2)),
	}
	for _, a := range permutations(list) {
		for _, b := range permutations(list) {
			checkDamage(t, impl.Scene{W: 6, H: 5, Back: 0xff778899, Surfaces: a}, impl.Scene{W: 6, H: 5, Back: 0xff778899, Surfaces: b})
		}
		for n := range a {
			checkDamage(t, letterScene(list...), letterScene(a[:n]...))
		}
	}
}

// TestDamageIsAsDefined compares all scenes of one size with one another, and each scene with the
// one before it, whose size may be another.
func TestDamageIsAsDefined(t *testing.T) {
	scenes := layeredScenes()
	for k, s := range scenes {
		checkDamage(t, scenes[max(k-1, 0)], s)
		if got := impl.DamageOf(s, copyOfScene(s)); len(got.Rects) > 0 {
			t.Errorf("DamageOf(%v) and itself is %v", s, got)
		}
	}
	var list []impl.Scene
	for seed := range 40 {
		s, _ := impl.DoEdits(scene(), manyEdits(3000+seed, 50))
		s.W, s.H, s.Back = 12, 9, 0xff314159
		list = append(list, s)
	}
	for k, a := range list {
		for _, b := range list[:k] {
			checkDamage(t, a, b)
		}
	}
}

func TestWrongScenesHaveNoDamage(t *testing.T) {
	others := append(wrongScenes()[:3], scene(), crowdedScene(2), impl.Scene{W: 16, H: 16, Back: 0xff000000})
	for _, s := range wrongScenes() {
		for _, other := range append(others, s) {
			for _, pair := range [][2]impl.Scene{{s, other}, {other, s}} {
				if got := impl.DamageOf(pair[0], pair[1]); len(got.Rects) > 0 {
					t.Errorf("DamageOf(%v, %v) = %v", pair[0], pair[1], got)
				}
			}
		}
	}
}

// TestDamageSharesNoMemory takes scenes in front of spare capacity that holds other surfaces and
// pixels, and changes the results.
func TestDamageSharesNoMemory(t *testing.T) {
	pixels := []int{1, 2, 0xff030405, 0xffff8040, 0xff000005, 0x7f060708, 7, 8}
	surfaces := []impl.Surface{
		solidSurface(80, rect(0, 0, 5, 4)), newSurface(1, 1, 1, impl.Image{W: 3, H: 2, Data: pixels[:6]}),
		newSurface(2, 3, 1, impl.Image{W: 2, H: 1, Data: pixels[2:4]}), newSurface(3, 0, 1, impl.Image{W: 3, H: 1, Data: pixels[2:5]}),
		solidSurface(81, rect(0, 0, 5, 4)), solidSurface(82, rect(0, 0, 5, 4)),
	}
	edits := []impl.Edit{
		{Kind: impl.EditAdd, Id: 60, Buffer: impl.Image{W: 2, H: 2, Data: pixels[3:7]}}, {Kind: impl.EditRaise, Id: 1},
		{Kind: impl.EditBuffer, Id: 2, Buffer: impl.Image{W: 2, H: 1, Data: pixels[4:6]}}, {Kind: impl.EditRemove, Id: 3}, {Kind: impl.EditRemove, Id: 2},
	}
	kinds := func() (list [5]int) {
		for k, e := range edits {
			list[k] = e.Kind
		}
		return list
	}
	kindsBefore := kinds()
	for _, back := range []int{0xff405060, 0} {
		a, b := scene(surfaces[:3]...), scene(surfaces[1:4]...)
		a.Surfaces, a.Back, b.Surfaces, b.Back = surfaces[:3], back, surfaces[1:4], back
		pixelsBefore, before := slices.Clone(pixels), copyOfScene(scene(surfaces...))
		damages := func() []impl.Region {
			return []impl.Region{impl.DamageOf(a, b), impl.DamageOf(b, a), impl.EditDamage(a, edits[:3]), impl.EditDamage(b, edits[:4])}
		}
		want := damages()
		for _, got := range damages() {
			for k := range got.Rects {
				got.Rects[k] = rect(-1, -1, -1, -1)
			}
			_ = append(got.Rects, rect(-2, -2, -2, -2))
		}
		impl.SameSurface(a.Surfaces[0], b.Surfaces[0])
		for k, got := range damages() {
			if !sameForm(got, want[k]) {
				t.Errorf("a change of a result is seen in %v; want %v", got, want[k])
			}
		}
		if !slices.Equal(pixels, pixelsBefore) || !equalScenes(scene(surfaces...), before) || kinds() != kindsBefore {
			t.Fatalf("the arguments became %v, %v and %v", pixels, surfaces, edits)
		}
	}
}
