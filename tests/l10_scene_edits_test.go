package tests

import (
	"math"
	"slices"
	"testing"

	"loop.example/g03313/impl"
)

// kindsOfSurfaces are the kinds of the edits for the surface with an Id.
func kindsOfSurfaces() []int {
	return []int{impl.EditRemove, impl.EditMove, impl.EditRaise, impl.EditLower, impl.EditBuffer, impl.EditAlpha, impl.EditOrient, impl.EditSize, impl.EditVisible}
}

// checkEdit checks that an edit is performed with the scene want as its result.
func checkEdit(t *testing.T, s impl.Scene, e impl.Edit, want impl.Scene) {
	t.Helper()
	if got, ok := impl.DoEdit(s, e); !ok || !equalScenes(got, want) {
		t.Errorf("DoEdit(%v, %v) = %v, %v; want %v", s, e, got, ok, want)
	}
}

// checkNoEdit checks that an edit is not performed.
func checkNoEdit(t *testing.T, s impl.Scene, e impl.Edit) {
	t.Helper()
	if got, ok := impl.DoEdit(s, e); ok || !equalScenes(got, s) {
		t.Errorf("DoEdit(%v, %v) = %v, %v", s, e, got, ok)
	}
}

// forAllSurfaces calls a function with each surface of each of some scenes.
func forAllSurfaces(check func(s impl.Scene, k int, id int)) {
	for _, s := range someScenes() {
		for k, x := range s.Surfaces {
			check(s, k, x.Id)
		}
	}
}

func TestEditAdd(t *testing.T) {
	buffer := unlikePixels(3, 2)
	for _, s := range someScenes() {
		for _, id := range []int{3, 97} {
			for _, at := range [][2]int{{0, 0}, {-32, 32}, {32, -32}, {1, 2}} {
				e := impl.Edit{Kind: impl.EditAdd, Id: id, A: at[0], B: at[1], Buffer: buffer}
				if len(s.Surfaces) == mostSurfaces {
					checkNoEdit(t, s, e)
					continue
				}
				added := impl.Surface{Id: id, X: at[0], Y: at[1], W: 0, H: 0, Alpha: 255, Orient: 0, Visible: true, Buffer: buffer}
				checkEdit(t, s, e, changedScene(s, func(x *impl.Scene) { x.Surfaces = append(x.Surfaces, added) }))
			}
		}
	}
}

func TestEditAddRejectsInvalidSurfaces(t *testing.T) {
	good := impl.Edit{Kind: impl.EditAdd, Id: 3, A: 1, B: 2, Buffer: image(1, 1, 5)}
	for _, s := range someScenes() {
		for _, x := range s.Surfaces {
			checkNoEdit(t, s, impl.Edit{Kind: impl.EditAdd, Id: x.Id, A: x.X, B: x.Y, Buffer: x.Buffer})
			checkNoEdit(t, s, impl.Edit{Kind: impl.EditAdd, Id: x.Id, A: 1, B: 2, Buffer: good.Buffer})
		}
		for _, n := range notIds() {
			e := good
			e.Id = n
			checkNoEdit(t, s, e)
		}
		for _, n := range notSurfacePlaces() {
			a, b := good, good
			a.A, b.B = n, n
			checkNoEdit(t, s, a)
			checkNoEdit(t, s, b)
		}
	}
	for _, i := range invalidImages() {
		e := good
		e.Buffer = i
		checkNoEdit(t, scene(), e)
		checkNoEdit(t, crowdedScene(5), e)
	}
}

func TestEditAddFillsAScene(t *testing.T) {
	for n := range mostSurfaces + 3 {
		s := crowdedScene(min(n, mostSurfaces))
		e := impl.Edit{Kind: impl.EditAdd, Id: 80, Buffer: image(1, 1, 5)}
		got, ok := impl.DoEdit(s, e)
		if want := n < mostSurfaces; ok != want || want && len(got.Surfaces) != n+1 || !want && !equalScenes(got, s) {
			t.Errorf("a surface more than %d: %v, with the surfaces %s", n, ok, textOfIds(got))
		}
	}
}

func TestEditRemoveRaiseAndLower(t *testing.T) {
	cases := []struct {
		ids                      []int
		id                       int
		removed, raised, lowered string
	}{
		{[]int{5}, 5, "", "5", "5"},
		{[]int{5, 3}, 5, "3", "3 5", "5 3"},
		{[]int{5, 3}, 3, "5", "5 3", "3 5"},
		{[]int{1, 2, 3}, 1, "2 3", "2 3 1", "1 2 3"},
		{[]int{1, 2, 3}, 2, "1 3", "1 3 2", "2 1 3"},
		{[]int{1, 2, 3}, 3, "1 2", "1 2 3", "3 1 2"},
		{[]int{9, 4, 99, 1, 50, 7}, 9, "4 99 1 50 7", "4 99 1 50 7 9", "9 4 99 1 50 7"},
		{[]int{9, 4, 99, 1, 50, 7}, 99, "9 4 1 50 7", "9 4 1 50 7 99", "99 9 4 1 50 7"},
		{[]int{9, 4, 99, 1, 50, 7}, 50, "9 4 99 1 7", "9 4 99 1 7 50", "50 9 4 99 1 7"},
		{[]int{9, 4, 99, 1, 50, 7}, 7, "9 4 99 1 50", "9 4 99 1 50 7", "7 9 4 99 1 50"},
	}
	for _, c := range cases {
		s := scene()
		for k, id := range c.ids {
			x := someSurfaces()[k]
			x.Id = id
			s.Surfaces = append(s.Surfaces, x)
		}
		for kind, want := range map[int]string{impl.EditRemove: c.removed, impl.EditRaise: c.raised, impl.EditLower: c.lowered} {
			got, ok := impl.DoEdit(s, impl.Edit{Kind: kind, Id: c.id, A: 77, B: -77})
			if !ok || textOfIds(got) != want {
				t.Errorf("edit %d of %d in %v leaves %s, %v; want %s", kind, c.id, c.ids, textOfIds(got), ok, want)
			}
			for _, x := range got.Surfaces {
				if old := s.Surfaces[slices.Index(c.ids, x.Id)]; !equalSurfaces(x, old) {
					t.Errorf("edit %d of %d makes %v of %v", kind, c.id, x, old)
				}
			}
			got.Surfaces = s.Surfaces
			if !equalScenes(got, s) {
				t.Errorf("edit %d of %d changes the scene to %v", kind, c.id, got)
			}
		}
	}
}

// checkFieldEdit checks that an edit for surface k does nothing but what set does to this
// surface; it is not performed if the surface is not valid then.
func checkFieldEdit(t *testing.T, s impl.Scene, k int, e impl.Edit, valid bool, set func(x *impl.Surface)) {
	t.Helper()
	if !valid {
		checkNoEdit(t, s, e)
		return
	}
	checkEdit(t, s, e, changedScene(s, func(x *impl.Scene) { set(&x.Surfaces[k]) }))
}

func TestEditMove(t *testing.T) {
	places := append(notSurfacePlaces(), 0, 1, -1, 31, -31, 32, -32)
	inRange := func(n int) bool { return -greatestPlace <= n && n <= greatestPlace }
	forAllSurfaces(func(s impl.Scene, k int, id int) {
		for _, a := range places {
			for _, b := range []int{a, 0, 32, -32, 33, -33} {
				checkFieldEdit(t, s, k, impl.Edit{Kind: impl.EditMove, Id: id, A: a, B: b}, inRange(a) && inRange(b), func(x *impl.Surface) { x.X, x.Y = a, b })
				checkFieldEdit(t, s, k, impl.Edit{Kind: impl.EditMove, Id: id, A: b, B: a}, inRange(a) && inRange(b), func(x *impl.Surface) { x.X, x.Y = b, a })
			}
		}
	})
}

func TestEditBuffer(t *testing.T) {
	forAllSurfaces(func(s impl.Scene, k int, id int) {
		for _, size := range someSizes() {
			buffer := invertedPixels(unlikePixels(size[0], size[1]))
			checkFieldEdit(t, s, k, impl.Edit{Kind: impl.EditBuffer, Id: id, A: -5, B: 500, Buffer: buffer}, true, func(x *impl.Surface) { x.Buffer = buffer })
		}
		for _, buffer := range imagesOfWrongSize() {
			checkNoEdit(t, s, impl.Edit{Kind: impl.EditBuffer, Id: id, Buffer: buffer})
		}
	})
	s := crowdedScene(3)
	for _, buffer := range invalidImages() {
		checkNoEdit(t, s, impl.Edit{Kind: impl.EditBuffer, Id: 11, Buffer: buffer})
	}
}

func TestEditAlphaOrientAndVisible(t *testing.T) {
	numbers := slices.Concat(notChannels(), notOrientations(), someChannels(), []int{0, 1, 2, 3, 4, 5, 6, 7, 8, -1})
	forAllSurfaces(func(s impl.Scene, k int, id int) {
		for _, n := range numbers {
			for _, b := range []int{0, 1, -1000} {
				checkFieldEdit(t, s, k, impl.Edit{Kind: impl.EditAlpha, Id: id, A: n, B: b}, 0 <= n && n <= 255, func(x *impl.Surface) { x.Alpha = n })
				checkFieldEdit(t, s, k, impl.Edit{Kind: impl.EditOrient, Id: id, A: n, B: b}, 0 <= n && n < orientationCount, func(x *impl.Surface) { x.Orient = n })
				checkFieldEdit(t, s, k, impl.Edit{Kind: impl.EditVisible, Id: id, A: n, B: b}, true, func(x *impl.Surface) { x.Visible = n == 1 })
			}
		}
	})
}

func TestEditSize(t *testing.T) {
	check := func(s impl.Scene, k, id, w, h int) {
		valid := w == 0 && h == 0 || 1 <= w && w <= screenSide && 1 <= h && h <= screenSide
		checkFieldEdit(t, s, k, impl.Edit{Kind: impl.EditSize, Id: id, A: w, B: h}, valid, func(x *impl.Surface) { x.W, x.H = w, h })
	}
	forAllSurfaces(func(s impl.Scene, k int, id int) {
		for _, n := range append(notSides(), 1, 2, 15, 16) {
			for _, other := range []int{n, 0, 1, 16, 17, -1, 3} {
				check(s, k, id, n, other)
				check(s, k, id, other, n)
			}
		}
	})
	for w := -2; w <= screenSide+2; w++ {
		for h := -2; h <= screenSide+2; h++ {
			check(crowdedScene(3), 1, 11, w, h)
		}
	}
}

// TestEditBack has Ids that no surface has, and some that one has.
func TestEditBack(t *testing.T) {
	for _, s := range someScenes() {
		for _, id := range []int{0, 1, 2, 99, 100, -1} {
			for _, p := range []int{0xff000000, highestPixel, 0xff123456, 0xff800000, s.Back} {
				checkEdit(t, s, impl.Edit{Kind: impl.EditBack, Id: id, A: p, B: 1 << 40}, changedScene(s, func(x *impl.Scene) { x.Back = p }))
			}
			for _, p := range notBacks() {
				checkNoEdit(t, s, impl.Edit{Kind: impl.EditBack, Id: id, A: p, B: 0xff000000})
			}
		}
	}
}

// TestEditsOfSurfacesThatAreNotThere tries Ids that are in the range and others, with numbers that
// are right for each kind.
func TestEditsOfSurfacesThatAreNotThere(t *testing.T) {
	for _, s := range someScenes() {
		for _, id := range append(notIds(), 3, 4, 51, 97) {
			for _, kind := range kindsOfSurfaces() {
				checkNoEdit(t, s, impl.Edit{Kind: kind, Id: id, A: 1, B: 1, Buffer: image(1, 1, 5)})
				checkNoEdit(t, s, impl.Edit{Kind: kind, Id: id, A: -1, B: 99})
			}
		}
	}
}

func TestEditsOfKindsOutOfRange(t *testing.T) {
	for _, kind := range []int{-1, 11, -2, 12, 100, -11, 256, 1 << 32, 1<<32 + 3, -1 << 32, math.MaxInt, math.MinInt} {
		for _, s := range someScenes() {
			checkNoEdit(t, s, impl.Edit{Kind: kind})
			checkNoEdit(t, s, impl.Edit{Kind: kind, Id: 3, A: 1, B: 1, Buffer: image(1, 1, 5)})
			checkNoEdit(t, s, impl.Edit{Kind: kind, Id: 3, A: 0xff000000})
			for _, x := range s.Surfaces {
				checkNoEdit(t, s, impl.Edit{Kind: kind, Id: x.Id, A: 1, B: 1, Buffer: image(1, 1, 5)})
			}
		}
	}
}

func TestEditsOfWrongScenes(t *testing.T) {
	for _, s := range wrongScenes() {
		for kind := impl.EditAdd - 1; kind <= impl.EditBack+1; kind++ {
			for _, id := range []int{3, 10, 11, 60} {
				checkNoEdit(t, s, impl.Edit{Kind: kind, Id: id, A: 1, B: 1, Buffer: image(1, 1, 5)})
			}
			checkNoEdit(t, s, impl.Edit{Kind: kind, Id: 10, A: 0xff000000})
		}
	}
}

// TestEditsThatWouldMakeAWrongSceneValid are not performed either.
func TestEditsThatWouldMakeAWrongSceneValid(t *testing.T) {
	wrong := func(change func(x *impl.Surface)) impl.Scene {
		return changedScene(crowdedScene(3), func(x *impl.Scene) { change(&x.Surfaces[1]) })
	}
	cases := []struct {
		s impl.Scene
		e impl.Edit
	}{
		{changedScene(crowdedScene(2), func(x *impl.Scene) { x.Back = 0 }), impl.Edit{Kind: impl.EditBack, A: 0xff000000}},
		{crowdedScene(mostSurfaces + 1), impl.Edit{Kind: impl.EditRemove, Id: 10}},
		{wrong(func(x *impl.Surface) { x.Id = 10 }), impl.Edit{Kind: impl.EditRemove, Id: 10}},
		{wrong(func(x *impl.Surface) { x.Id = 100 }), impl.Edit{Kind: impl.EditRemove, Id: 100}},
		{wrong(func(x *impl.Surface) { x.X = 33 }), impl.Edit{Kind: impl.EditMove, Id: 11}},
		{wrong(func(x *impl.Surface) { x.Y = -33 }), impl.Edit{Kind: impl.EditMove, Id: 11}},
		{wrong(func(x *impl.Surface) { x.Buffer = impl.Image{} }), impl.Edit{Kind: impl.EditBuffer, Id: 11, Buffer: image(1, 1, 5)}},
		{wrong(func(x *impl.Surface) { x.Alpha = -1 }), impl.Edit{Kind: impl.EditAlpha, Id: 11}},
		{wrong(func(x *impl.Surface) { x.Orient = 8 }), impl.Edit{Kind: impl.EditOrient, Id: 11}},
		{wrong(func(x *impl.Surface) { x.W = 1 }), impl.Edit{Kind: impl.EditSize, Id: 11}},
		{wrong(func(x *impl.Surface) { x.H = 1 }), impl.Edit{Kind: impl.EditSize, Id: 11, A: 1, B: 1}},
	}
	for _, c := range cases {
		checkNoEdit(t, c.s, c.e)
		if got, n := impl.DoEdits(c.s, []impl.Edit{c.e, c.e}); n != 0 || !equalScenes(got, c.s) {
			t.Errorf("DoEdits of %v with %v is %v, %d", c.s, c.e, got, n)
		}
	}
}

func TestDoEdits(t *testing.T) {
	red, blue := image(2, 1, 0xffff0000, 0xffff0000), image(1, 1, 0xff0000ff)
	cases := []struct {
		name  string
		list  []impl.Edit
		want  []impl.Surface
		count int
	}{
		{"nothing", nil, nil, 0},
		{"two surfaces", []impl.Edit{{Id: 1, A: 3, B: 4, Buffer: red}, {Id: 2, Buffer: blue}}, []impl.Surface{newSurface(1, 3, 4, red), newSurface(2, 0, 0, blue)}, 2},
		{"the same Id again", []impl.Edit{{Id: 1, Buffer: red}, {Id: 1, Buffer: blue}, {Id: 2, Buffer: blue}}, []impl.Surface{newSurface(1, 0, 0, red), newSurface(2, 0, 0, blue)}, 2},
		{"an edit before its surface", []impl.Edit{{Kind: impl.EditMove, Id: 1, A: 5}, {Id: 1, Buffer: red}}, []impl.Surface{newSurface(1, 0, 0, red)}, 1},
		{"an edit after its surface", []impl.Edit{{Id: 1, Buffer: red}, {Kind: impl.EditMove, Id: 1, A: 5}}, []impl.Surface{newSurface(1, 5, 0, red)}, 2},
		{"the last of two", []impl.Edit{{Id: 1, Buffer: red}, {Kind: impl.EditMove, Id: 1, A: 5}, {Kind: impl.EditMove, Id: 1, B: 6}}, []impl.Surface{newSurface(1, 0, 6, red)}, 3},
		{"a wrong one between", []impl.Edit{{Id: 1, Buffer: red}, {Kind: impl.EditMove, Id: 1, A: 33}, {Kind: -1}, {Kind: impl.EditBuffer, Id: 1, Buffer: blue}, {Kind: 11}}, []impl.Surface{newSurface(1, 0, 0, blue)}, 2},
		{"added, removed and added", []impl.Edit{{Id: 1, A: 7, Buffer: red}, {Kind: impl.EditRemove, Id: 1}, {Kind: impl.EditRemove, Id: 1}, {Id: 1, Buffer: red}}, []impl.Surface{newSurface(1, 0, 0, red)}, 3},
		{"lowered and raised", []impl.Edit{{Id: 1, Buffer: red}, {Id: 2, Buffer: red}, {Id: 3, Buffer: red}, {Kind: impl.EditLower, Id: 3}, {Kind: impl.EditRaise, Id: 1}}, []impl.Surface{newSurface(3, 0, 0, red), newSurface(2, 0, 0, red), newSurface(1, 0, 0, red)}, 5},
	}
	for _, c := range cases {
		if got, n := impl.DoEdits(scene(), c.list); n != c.count || !equalScenes(got, scene(c.want...)) {
			t.Errorf("%s: DoEdits gives %v, %d; want %v, %d", c.name, got, n, c.want, c.count)
		}
	}
}

// manyEdits makes a list of edits, most of which are right for small scenes, from a number.
func manyEdits(seed, length int) []impl.Edit {
	var list []impl.Edit
	n := seed
	draw := func(count int) int {
		n = (n*1103515245 + 12345) % (1 << 31)
		return n / 1024 % count
	}
	for range length {
		size := someSizes()[draw(len(someSizes()))]
		e := impl.Edit{Kind: draw(12), Id: 1 + draw(8), A: draw(20) - 2, B: draw(20) - 2}
		switch {
		case e.Kind == 11:
			e.Kind = impl.EditAdd
		case e.Kind == impl.EditBack && draw(3) > 0:
			e.A = 0xff000000 + draw(1<<20)
		case e.Kind == impl.EditVisible:
			e.A = draw(3)
		}
		if draw(6) > 0 {
			e.Buffer = impl.NewImage(size[0], size[1], draw(1<<20)<<12)
		}
		list = append(list, e)
	}
	return list
}

// TestDoEditsIsDoEditAgainAndAgain also checks that each scene on the way is valid, and is the one
// before it where an edit is not performed.
func TestDoEditsIsDoEditAgainAndAgain(t *testing.T) {
	performed, refused := map[int]int{}, map[int]int{}
	for seed := range 60 {
		list := manyEdits(seed, 100)
		s, count := scene(), 0
		for k, e := range list {
			if got, n := impl.DoEdits(scene(), list[:k]); n != count || !equalScenes(got, s) {
				t.Fatalf("DoEdits of the list %d up to %d is %v, %d; want %v, %d", seed, k, got, n, s, count)
			}
			next, ok := impl.DoEdit(s, e)
			if !impl.SceneOk(next) {
				t.Fatalf("DoEdit(%v, %v) is not valid: %v", s, e, next)
			}
			if ok {
				count++
				performed[e.Kind]++
			} else {
				refused[e.Kind]++
				if !equalScenes(next, s) {
					t.Fatalf("DoEdit(%v, %v) changes the scene to %v", s, e, next)
				}
			}
			s = next
		}
	}
	for kind := impl.EditAdd; kind <= impl.EditBack; kind++ {
		if performed[kind] < 20 || refused[kind] < 20 {
			t.Errorf("edits of kind %d were performed %d times and refused %d times", kind, performed[kind], refused[kind])
		}
	}
}

func TestDoEditsOfWrongScenes(t *testing.T) {
	for n, s := range wrongScenes() {
		if got, count := impl.DoEdits(s, manyEdits(n, 20)); count != 0 || !equalScenes(got, s) {
			t.Errorf("DoEdits of %v is %v, %d", s, got, count)
		}
		if got, count := impl.DoEdits(s, nil); count != 0 || !equalScenes(got, s) {
			t.Errorf("DoEdits of %v without edits is %v, %d", s, got, count)
		}
	}
}

// undoing finds edits that bring a scene back after an edit that was performed on it.
func undoing(s impl.Scene, e impl.Edit) []impl.Edit {
	switch e.Kind {
	case impl.EditAdd:
		return []impl.Edit{{Kind: impl.EditRemove, Id: e.Id}}
	case impl.EditBack:
		return []impl.Edit{{Kind: impl.EditBack, A: s.Back}}
	}
	k := slices.IndexFunc(s.Surfaces, func(x impl.Surface) bool { return x.Id == e.Id })
	old := s.Surfaces[k]
	visible := 0
	if old.Visible {
		visible = 1
	}
	var raises []impl.Edit
	for _, x := range s.Surfaces[k:] {
		raises = append(raises, impl.Edit{Kind: impl.EditRaise, Id: x.Id})
	}
	fields := map[int]impl.Edit{
		impl.EditMove:    {Kind: impl.EditMove, Id: old.Id, A: old.X, B: old.Y},
		impl.EditBuffer:  {Kind: impl.EditBuffer, Id: old.Id, Buffer: old.Buffer},
		impl.EditAlpha:   {Kind: impl.EditAlpha, Id: old.Id, A: old.Alpha},
		impl.EditOrient:  {Kind: impl.EditOrient, Id: old.Id, A: old.Orient},
		impl.EditSize:    {Kind: impl.EditSize, Id: old.Id, A: old.W, B: old.H},
		impl.EditVisible: {Kind: impl.EditVisible, Id: old.Id, A: visible},
	}
	switch e.Kind {
	case impl.EditRaise, impl.EditLower:
		return raises
	case impl.EditRemove:
		again := []impl.Edit{
			{Kind: impl.EditAdd, Id: old.Id, A: old.X, B: old.Y, Buffer: old.Buffer},
			fields[impl.EditAlpha], fields[impl.EditOrient], fields[impl.EditSize], fields[impl.EditVisible],
		}
		return append(again, raises...)
	}
	return []impl.Edit{fields[e.Kind]}
}

// checkUndo checks that an edit is performed and can be undone, and returns the edits for that.
func checkUndo(t *testing.T, s impl.Scene, e impl.Edit) (impl.Scene, []impl.Edit) {
	t.Helper()
	edited, ok := impl.DoEdit(s, e)
	if !ok {
		t.Fatalf("DoEdit(%v, %v) is false", s, e)
	}
	undo := undoing(s, e)
	if back, n := impl.DoEdits(edited, undo); n != len(undo) || !equalScenes(back, s) {
		t.Errorf("DoEdit(%v, %v), undone by %d edits, is %v, %d", s, e, len(undo), back, n)
	}
	return edited, undo
}

func TestEditsCanBeUndone(t *testing.T) {
	for _, s := range someScenes() {
		checkUndo(t, s, impl.Edit{Kind: impl.EditBack, A: 0xff998877})
		if len(s.Surfaces) < mostSurfaces {
			checkUndo(t, s, impl.Edit{Kind: impl.EditAdd, Id: 3, A: -9, B: 9, Buffer: unlikePixels(5, 5)})
		}
		for _, x := range s.Surfaces {
			for _, kind := range kindsOfSurfaces() {
				for _, n := range []int{0, 1, 7} {
					checkUndo(t, s, impl.Edit{Kind: kind, Id: x.Id, A: n, B: n, Buffer: unlikePixels(2, 3)})
				}
			}
		}
	}
}

// TestListsOfEditsCanBeUndone undoes many edits, the last one first.
func TestListsOfEditsCanBeUndone(t *testing.T) {
	for seed := range 60 {
		list := manyEdits(1000+seed, 150)
		for _, first := range someScenes() {
			s := first
			var undo []impl.Edit
			for _, e := range list[seed%20:] {
				if _, ok := impl.DoEdit(s, e); ok {
					edited, back := checkUndo(t, s, e)
					s, undo = edited, append(back, undo...)
				}
				if len(undo) > 120 {
					break
				}
			}
			if got, n := impl.DoEdits(s, undo); n != len(undo) || !equalScenes(got, first) {
				t.Errorf("after the list %d of edits, %d of %d edits lead back to %v; want %v", seed, n, len(undo), got, first)
			}
		}
	}
}

// spoil changes whatever can be reached from a scene.
func spoil(s impl.Scene) {
	for _, x := range s.Surfaces {
		for k := range x.Buffer.Data {
			x.Buffer.Data[k] = -5
		}
		_ = append(x.Buffer.Data, -6)
	}
	for k := range s.Surfaces {
		s.Surfaces[k] = impl.Surface{Id: -7}
	}
	_ = append(s.Surfaces, impl.Surface{Id: -8})
}

// TestEditsShareNoMemory edits a scene in front of spare capacity that holds other surfaces and
// pixels, and changes the results.
func TestEditsShareNoMemory(t *testing.T) {
	pixels := []int{1, 2, 3, 4, 5, 6, 7, 8, 9, 10}
	surfaces := []impl.Surface{
		newSurface(80, 0, 0, image(1, 1, 1)), newSurface(1, 2, 3, image(2, 1, pixels[1:3]...)), newSurface(2, 4, 5, impl.Image{W: 2, H: 1, Data: pixels[1:3]}),
		newSurface(3, 6, 7, impl.Image{W: 3, H: 1, Data: pixels[2:5]}), newSurface(81, 0, 0, image(1, 1, 1)), newSurface(82, 0, 0, image(1, 1, 1)),
	}
	s := scene(surfaces[1:4]...)
	buffer := impl.Image{W: 1, H: 2, Data: pixels[5:7]}
	pixelsBefore, before := slices.Clone(pixels), copyOfScene(scene(surfaces...))
	for kind := impl.EditAdd - 1; kind <= impl.EditBack+1; kind++ {
		for id := range 5 {
			for _, n := range []int{0, 1, 0xff000000} {
				list := []impl.Edit{{Kind: kind, Id: id, A: n, B: n, Buffer: buffer}}
				want, wantOk := impl.DoEdit(s, list[0])
				all, count := impl.DoEdits(s, list)
				if !equalScenes(all, want) || (count == 1) != wantOk {
					t.Errorf("DoEdits of one edit %v is %v, %d; want %v, %v", list[0], all, count, want, wantOk)
				}
				spoil(all)
				again, _ := impl.DoEdit(s, list[0])
				if !equalScenes(again, want) {
					t.Errorf("a change of a result is seen in %v", again)
				}
				spoil(again)
				spoil(want)
				if !slices.Equal(pixels, pixelsBefore) || !equalScenes(scene(surfaces...), before) || !equalImages(list[0].Buffer, buffer) {
					t.Fatalf("with the edit %v, the arguments became %v and %v", list[0], pixels, surfaces)
				}
			}
		}
	}
	for _, list := range [][]impl.Edit{nil, {}, {{Kind: -1}}, manyEdits(3, 30)} {
		got, _ := impl.DoEdits(s, list)
		spoil(got)
		if !slices.Equal(pixels, pixelsBefore) || !equalScenes(scene(surfaces...), before) {
			t.Fatalf("with %d edits, the arguments became %v and %v", len(list), pixels, surfaces)
		}
	}
}

// TestSurfacesOfAResultShareNoMemory edits scenes whose surfaces, and the edit, have one buffer
// in common.
func TestSurfacesOfAResultShareNoMemory(t *testing.T) {
	common := unlikePixels(4, 2)
	for _, back := range []int{0xff000000, 0} {
		s := scene(newSurface(1, 0, 0, common), newSurface(2, 1, 1, common), newSurface(3, 2, 2, common))
		s.Back = back
		for kind := impl.EditAdd - 1; kind <= impl.EditBack+1; kind++ {
			for _, id := range []int{1, 2, 3, 4} {
				e := impl.Edit{Kind: kind, Id: id, A: 1, B: 1, Buffer: common}
				one, _ := impl.DoEdit(s, e)
				several, _ := impl.DoEdits(s, []impl.Edit{e, e})
				none, _ := impl.DoEdits(s, nil)
				for _, got := range []impl.Scene{one, several, none} {
					for k := range got.Surfaces {
						got.Surfaces[k].Buffer.Data[0] = 900 + k
						_ = append(got.Surfaces[k].Buffer.Data, 7)
					}
					for k, x := range got.Surfaces {
						if x.Buffer.Data[0] != 900+k || !slices.Equal(x.Buffer.Data[1:], common.Data[1:]) {
							t.Errorf("after the edit %v, surface %d has %v", e, k, x.Buffer)
						}
					}
				}
			}
		}
	}
	if !equalImages(common, unlikePixels(4, 2)) {
		t.Errorf("the buffer became %v", common)
	}
}

func TestPictureOfSharesNoMemory(t *testing.T) {
	memory := []int{1, 2, 0xff030405, 0x80ff8040, 5, 6, 7, 8, 9, 10}
	before := slices.Clone(memory)
	for o := range orientationCount {
		for _, size := range [][2]int{{0, 0}, {3, 2}, {2, 3}, {5, 5}, {0, 1}} {
			s := impl.Surface{Id: 1, W: size[0], H: size[1], Alpha: 255, Orient: o, Visible: true, Buffer: impl.Image{W: 3, H: 2, Data: memory[1:7]}}
			want := impl.PictureOf(s)
			changed := impl.PictureOf(s)
			for k := range changed.Data {
				changed.Data[k] = -5
			}
			_ = append(changed.Data, -6)
			impl.IsOpaque(s)
			impl.SurfaceOk(s)
			if !slices.Equal(memory, before) || slices.Contains(want.Data, -5) || !equalImages(impl.PictureOf(s), want) {
				t.Fatalf("in orientation %d and size %v, the argument became %v", o, size, memory)
			}
		}
	}
}
