package tests

import (
	"math"
	"slices"
	"testing"

	"loop.example/g03313/impl"
)

// checkSame checks SameSurface in both orders.
func checkSame(t *testing.T, name string, a, b impl.Surface, want bool) {
	t.Helper()
	if impl.SameSurface(a, b) != want || impl.SameSurface(b, a) != want {
		t.Errorf("%s: SameSurface(%v, %v) is not %v", name, a, b, want)
	}
}

func TestSameSurface(t *testing.T) {
	list := append(someSurfaces(), wrongSurfaces()[:60]...)
	for k, a := range list {
		for n, b := range list {
			checkSame(t, "two of a list", a, changedSurface(b, func(*impl.Surface) {}), equalSurfaces(a, b))
			if k == n && !impl.SameSurface(a, b) {
				t.Errorf("SameSurface of %v and itself is false", a)
			}
		}
	}
}

// TestSameSurfaceInEachField changes one field of surfaces, valid ones and others.
func TestSameSurfaceInEachField(t *testing.T) {
	fields := map[string]func(x *impl.Surface) *int{
		"Id":       func(x *impl.Surface) *int { return &x.Id },
		"X":        func(x *impl.Surface) *int { return &x.X },
		"Y":        func(x *impl.Surface) *int { return &x.Y },
		"W":        func(x *impl.Surface) *int { return &x.W },
		"H":        func(x *impl.Surface) *int { return &x.H },
		"Alpha":    func(x *impl.Surface) *int { return &x.Alpha },
		"Orient":   func(x *impl.Surface) *int { return &x.Orient },
		"Buffer.W": func(x *impl.Surface) *int { return &x.Buffer.W },
		"Buffer.H": func(x *impl.Surface) *int { return &x.Buffer.H },
	}
	for _, s := range slices.Concat(someSurfaces(), fewWrongSurfaces(), []impl.Surface{{}}) {
		for name, field := range fields {
			for _, n := range []int{-1, 0, 1, 2, 16, 255, 1 << 32, math.MaxInt, math.MinInt} {
				x := changedSurface(s, func(x *impl.Surface) { *field(x) = n })
				checkSame(t, name, s, x, *field(&s) == n)
			}
		}
		checkSame(t, "Visible", s, changedSurface(s, func(x *impl.Surface) { x.Visible = !x.Visible }), false)
		for k := range s.Buffer.Data {
			checkSame(t, "a pixel", s, changedSurface(s, func(x *impl.Surface) { x.Buffer.Data[k] ^= 1 << (k % 33) }), false)
			checkSame(t, "fewer pixels", s, changedSurface(s, func(x *impl.Surface) { x.Buffer.Data = x.Buffer.Data[:k] }), false)
		}
		checkSame(t, "one more pixel", s, changedSurface(s, func(x *impl.Surface) { x.Buffer.Data = append(x.Buffer.Data, 0) }), false)
	}
	checkSame(t, "no pixels", impl.Surface{}, impl.Surface{Buffer: impl.Image{Data: []int{}}}, true)
	checkSame(t, "the whole shape", newSurface(1, 0, 0, image(2, 3, 1, 1, 1, 1, 1, 1)), newSurface(1, 0, 0, image(3, 2, 1, 1, 1, 1, 1, 1)), false)
}

// checkEditDamage checks that the damage of edits is that of the scenes before and after them.
func checkEditDamage(t *testing.T, s impl.Scene, list []impl.Edit) {
	t.Helper()
	edited, _ := impl.DoEdits(s, list)
	got, want := impl.EditDamage(s, list), damagedPoints(s, edited)
	if !slices.Equal(got.Rects, want.form()) {
		t.Errorf("EditDamage(%v, %v) = %v; want %v", s, list, got, want.form())
	}
	checkUndamaged(t, s, edited, got)
}

// TestEditDamageOfEachKind edits a scene of two surfaces, which have common points, and a hidden one.
func TestEditDamageOfEachKind(t *testing.T) {
	s := letterScene(solidSurface(1, rect(0, 1, 4, 2)), faintSurface(2, rect(2, 0, 2, 3)), hiddenSurface(3, rect(0, 0, 1, 1)))
	cases := []struct {
		name string
		list []impl.Edit
		rows string
	}{
		{"nothing", nil, ""},
		{"add", []impl.Edit{{Id: 4, A: 4, B: 3, Buffer: image(1, 1, 5)}}, "///....#"},
		{"add the same Id", []impl.Edit{{Id: 1, A: 4, B: 3, Buffer: image(1, 1, 5)}}, ""},
		{"remove", []impl.Edit{{Kind: impl.EditRemove, Id: 1}}, "/####/####"},
		{"remove another", []impl.Edit{{Kind: impl.EditRemove, Id: 4}}, ""},
		{"move", []impl.Edit{{Kind: impl.EditMove, Id: 2, A: 3, B: 1}}, "..##/..###/..###/...##"},
		{"move to the same place", []impl.Edit{{Kind: impl.EditMove, Id: 2, A: 2, B: 0}}, ""},
		{"move too far", []impl.Edit{{Kind: impl.EditMove, Id: 2, A: 33, B: 0}}, ""},
		{"raise", []impl.Edit{{Kind: impl.EditRaise, Id: 1}}, "/..##/..##"},
		{"raise the highest", []impl.Edit{{Kind: impl.EditRaise, Id: 3}}, ""},
		{"lower", []impl.Edit{{Kind: impl.EditLower, Id: 2}}, "/..##/..##"},
		{"lower a hidden one", []impl.Edit{{Kind: impl.EditLower, Id: 3}}, ""},
		{"buffer", []impl.Edit{{Kind: impl.EditBuffer, Id: 2, Buffer: image(1, 1, 5)}}, "..##/..##/..##"},
		{"alpha", []impl.Edit{{Kind: impl.EditAlpha, Id: 1, A: 254}}, "/####/####"},
		{"the same alpha", []impl.Edit{{Kind: impl.EditAlpha, Id: 1, A: 255}}, ""},
		{"orient", []impl.Edit{{Kind: impl.EditOrient, Id: 1, A: 1}}, "/####/####/##"},
		{"size", []impl.Edit{{Kind: impl.EditSize, Id: 2, A: 1, B: 4}}, "..##/..##/..##/..#"},
		{"hide", []impl.Edit{{Kind: impl.EditVisible, Id: 2}}, "..##/..##/..##"},
		{"show", []impl.Edit{{Kind: impl.EditVisible, Id: 3, A: 1}}, "#"},
		{"back", []impl.Edit{{Kind: impl.EditBack, A: 0xff000000}}, "#####/#####/#####/#####"},
		{"the same back", []impl.Edit{{Kind: impl.EditBack, A: s.Back}}, ""},
		{"a clear back", []impl.Edit{{Kind: impl.EditBack, A: 0x80000000}}, ""},
		{"a kind that there is not", []impl.Edit{{Kind: 11, Id: 1}, {Kind: -1, Id: 1}}, ""},
		{"there and back", []impl.Edit{{Kind: impl.EditMove, Id: 2, A: 3, B: 1}, {Kind: impl.EditMove, Id: 2, A: 2}}, ""},
		{"raise and lower", []impl.Edit{{Kind: impl.EditRaise, Id: 1}, {Kind: impl.EditLower, Id: 1}}, ""},
		{"other back and the same again", []impl.Edit{{Kind: impl.EditBack, A: 0xff000000}, {Kind: impl.EditBack, A: s.Back}}, ""},
		{"add and remove", []impl.Edit{{Id: 4, Buffer: image(1, 1, 5)}, {Kind: impl.EditRemove, Id: 4}}, ""},
		{"two moves", []impl.Edit{{Kind: impl.EditMove, Id: 2, A: 0, B: 0}, {Kind: impl.EditMove, Id: 2, A: 4, B: 3}}, "..##/..##/..##/....#"},
		{"move after a wrong one", []impl.Edit{{Kind: impl.EditMove, Id: 2, A: 99}, {Kind: impl.EditMove, Id: 2, A: 4, B: 3}}, "..##/..##/..##/....#"},
	}
	for _, c := range cases {
		if got := impl.EditDamage(s, c.list); !slices.Equal(got.Rects, writtenPoints(c.rows).form()) {
			t.Errorf("%s: EditDamage is %v; want %s", c.name, got, c.rows)
		}
		checkEditDamage(t, s, c.list)
	}
}

func TestEditDamageIsAsDefined(t *testing.T) {
	for seed, s := range layeredScenes() {
		list := manyEdits(seed, 30)
		for _, n := range []int{0, 1, 2, 5, 30} {
			checkEditDamage(t, s, list[:n])
		}
		for _, e := range list {
			checkEditDamage(t, s, []impl.Edit{e})
		}
	}
}

// TestEditsOfSurfacesDamageOnlyThem edits the surfaces of scenes, one by one, in all kinds.
func TestEditsOfSurfacesDamageOnlyThem(t *testing.T) {
	for _, s := range layeredScenes() {
		for k, x := range s.Surfaces {
			for _, kind := range kindsOfSurfaces() {
				e := impl.Edit{Kind: kind, Id: x.Id, A: 1, B: 2, Buffer: image(2, 1, 0xff0000ff, 5)}
				checkEditDamage(t, s, []impl.Edit{e})
				edited, _ := impl.DoEdit(s, e)
				places := drawnRects([]impl.Rect{placeOf(s.Surfaces[k]), placeById(edited, x.Id)})
				damage := impl.EditDamage(s, []impl.Edit{e})
				points := drawnRects(damage.Rects)
				if points != drawnPoints(func(x, y int) bool { return points.has(x, y) && places.has(x, y) }) {
					t.Errorf("the edit %v of %v damages %v", e, s, damage)
				}
			}
		}
	}
}

func TestEditDamageOfWrongScenes(t *testing.T) {
	for n, s := range wrongScenes() {
		for _, list := range [][]impl.Edit{nil, manyEdits(n, 20), {{Kind: impl.EditBack, A: 0xff000000}}, {{Kind: impl.EditRemove, Id: 10}}} {
			if got := impl.EditDamage(s, list); len(got.Rects) > 0 {
				t.Errorf("EditDamage(%v, %v) = %v", s, list, got)
			}
		}
	}
	wrong := changedScene(crowdedScene(2), func(x *impl.Scene) { x.Back = 0 })
	repaired := impl.Edit{Kind: impl.EditBack, A: 0xff000000}
	if got := impl.EditDamage(wrong, []impl.Edit{repaired}); len(got.Rects) > 0 {
		t.Errorf("EditDamage of a scene that would become valid is %v", got)
	}
}
