package tests

import (
	"slices"
	"testing"

	"loop.example/g03313/impl"
)

// presentedChain finds Present by its definition, for a valid chain and a scene of the same size.
func presentedChain(c impl.Chain, s impl.Scene) (impl.Chain, int) {
	next, stale, painted := paintedNext(c), stalePoints(c, paintedNext(c), s), paintedImage(s)
	return changedChain(c, func(x *impl.Chain) {
		for place := range painted.Data {
			if stale.has(place%s.W, place/s.W) {
				x.Buffers[next].Data[place] = painted.Data[place]
			}
		}
		x.Damages = append([]impl.Region{region(damagedPoints(c.Scene, s).form()...)}, x.Damages...)
		if len(x.Damages) > mostBuffers {
			x.Damages = x.Damages[:mostBuffers]
		}
		for k, age := range c.Ages {
			if age != 0 {
				x.Ages[k] = age + 1
			}
			if x.Ages[k] > len(x.Damages)+1 || x.Ages[k] > mostBuffers {
				x.Ages[k] = 0
			}
		}
		x.Ages[next] = 1
		x.Scene = s
	}), next
}

// checkPresent presents a scene, compares the result with the definition, and returns it.
func checkPresent(t *testing.T, c impl.Chain, s impl.Scene) impl.Chain {
	t.Helper()
	got, k, ok := impl.Present(c, s)
	want, next := presentedChain(c, s)
	if !ok || k != next || !equalChains(got, want) {
		t.Errorf("Present(%v, %v) = %v, %d, %v; want %v, %d", c, s, got, k, ok, want, next)
	}
	if !impl.ChainOk(got) {
		t.Errorf("Present(%v, %v) gives the invalid chain %v", c, s, got)
	}
	return got
}

// TestPresentOlderBuffers presents a scene in chains with all kinds of ages.
func TestPresentOlderBuffers(t *testing.T) {
	cases := []struct {
		damages      int
		before       []int
		buffer       int
		after        []int
		damagesAfter int
	}{
		{0, []int{0}, 0, []int{1}, 1}, {0, []int{1}, 0, []int{1}, 1}, {1, []int{2}, 0, []int{1}, 2}, {3, []int{3}, 0, []int{1}, 3},
		{0, []int{0, 0}, 0, []int{1, 0}, 1}, {0, []int{1, 0}, 1, []int{2, 1}, 1}, {1, []int{2, 1}, 0, []int{1, 2}, 2}, {2, []int{1, 2}, 1, []int{2, 1}, 3},
		{2, []int{0, 3}, 0, []int{1, 0}, 3}, {3, []int{0, 3}, 0, []int{1, 0}, 3}, {3, []int{3, 0}, 1, []int{0, 1}, 3}, {3, []int{0, 2}, 0, []int{1, 3}, 3},
		{1, []int{2, 0}, 1, []int{3, 1}, 2}, {3, []int{1, 3}, 1, []int{2, 1}, 3}, {2, []int{3, 2}, 0, []int{1, 3}, 3},
		{0, []int{0, 0, 0}, 0, []int{1, 0, 0}, 1}, {0, []int{1, 0, 0}, 1, []int{2, 1, 0}, 1}, {1, []int{2, 1, 0}, 2, []int{3, 2, 1}, 2},
		{2, []int{3, 2, 1}, 0, []int{1, 3, 2}, 3}, {3, []int{1, 3, 2}, 1, []int{2, 1, 3}, 3}, {3, []int{3, 0, 2}, 1, []int{0, 1, 3}, 3},
		{3, []int{2, 3, 0}, 2, []int{3, 0, 1}, 3}, {3, []int{0, 0, 3}, 0, []int{1, 0, 0}, 3}, {2, []int{0, 3, 1}, 0, []int{1, 0, 2}, 3},
	}
	for _, c := range cases {
		for _, s := range chainScenes() {
			got, k, ok := impl.Present(agedChain(s, c.damages, c.before...), s)
			if !ok || k != c.buffer || !slices.Equal(got.Ages, c.after) || len(got.Damages) != c.damagesAfter {
				t.Errorf("with %d damages and the ages %v, Present uses buffer %d and leaves %d damages and the ages %v; want %v", c.damages, c.before, k, len(got.Damages), got.Ages, c)
			}
			if len(got.Damages[0].Rects) > 0 {
				t.Errorf("the same scene presented again has the damage %v", got.Damages[0])
			}
			for n, damage := range got.Damages[1:] {
				if !sameForm(damage, unlikeDamages(n + 1)[n]) {
					t.Errorf("after one more presentation, damage %d is %v", n+1, damage)
				}
			}
		}
	}
}

// TestPresentPaintsOnlyWhatIsStale presents a dot with buffers that show other pixels: these are
// kept wherever the buffer is not stale.
func TestPresentPaintsOnlyWhatIsStale(t *testing.T) {
	before := letterScene(newSurface(1, 0, 0, opaqueLetters("abc/def")))
	after := letterScene(before.Surfaces[0], newSurface(2, 1, 1, opaqueLetters("x")))
	row, column := region(rect(0, 0, 3, 1)), region(rect(3, 0, 1, 3))
	cases := []struct {
		name string
		age  int
		rows string
		want string
	}{
		{"nothing painted yet", 0, "zzzzz/zzzzz/zzzzz/zzzzz", "abc--/dxf--/-----/-----"},
		{"presented last", 1, "zzzzz/zzzzz/zzzzz/zzzzz", "zzzzz/zxzzz/zzzzz/zzzzz"},
		{"presented before", 2, "zzzzz/zzzzz/zzzzz/zzzzz", "abczz/zxzzz/zzzzz/zzzzz"},
		{"presented before that", 3, "zzzzz/zzzzz/zzzzz/zzzzz", "abc-z/zxz-z/zzz-z/zzzzz"},
	}
	for _, c := range cases {
		letters := func(rows string) impl.Image {
			i := opaqueLetters(rows)
			for k, p := range i.Data {
				if p == opaqueLetters("-").Data[0] {
					i.Data[k] = before.Back
				}
			}
			return i
		}
		chain := impl.Chain{Buffers: []impl.Image{letters(c.rows)}, Ages: []int{c.age}, Damages: []impl.Region{row, column, region(rect(4, 0, 1, 1))}, Scene: before}
		got, _, ok := impl.Present(chain, after)
		if !ok || !equalImages(got.Buffers[0], letters(c.want)) {
			t.Errorf("%s: the buffer becomes %v, %v; want %s", c.name, got.Buffers, ok, c.want)
		}
		checkPresent(t, chain, after)
	}
}

func TestPresentIsAsDefined(t *testing.T) {
	for _, s := range chainScenes() {
		for _, later := range laterScenes(s) {
			for _, c := range agedChains(s) {
				checkPresent(t, c, later)
			}
		}
	}
	scenes := layeredScenes()
	for k, s := range scenes {
		for _, later := range []impl.Scene{s, changedScene(scenes[(k+1)%len(scenes)], func(x *impl.Scene) { x.W, x.H, x.Back = s.W, s.H, s.Back })} {
			checkPresent(t, agedChain(s, 3, 2, 3, 1), later)
			checkPresent(t, agedChain(s, 2, 3, 0), later)
		}
	}
}

// checkBuffers checks each buffer of a chain, whose scenes were presented one after the other: it
// shows the scene of its age, and any scene after its stale region was repainted.
func checkBuffers(t *testing.T, c impl.Chain, presented []impl.Scene, later []impl.Scene) {
	t.Helper()
	for k, age := range c.Ages {
		if age > 0 && !equalImages(c.Buffers[k], paintedImage(presented[len(presented)-age])) {
			t.Errorf("buffer %d of %v, of age %d, does not show %v", k, c, age, presented[len(presented)-age])
		}
		for _, s := range later {
			stale := impl.StaleRegion(c, k, s)
			if got := impl.PaintInto(c.Buffers[k], s, stale); !equalImages(got, paintedImage(s)) {
				t.Errorf("buffer %d of %v, of age %d, repainted in %v, shows %v instead of %v", k, c, age, stale, got, s)
			}
		}
	}
}

// sceneSequence are scenes of one size, each with few edits more than the one before it. At times
// nothing changes, or Back does.
func sceneSequence(s impl.Scene, seed, length int) []impl.Scene {
	edits := manyEdits(seed, 3*length)
	var list []impl.Scene
	for n := range length {
		if n%5 != 4 {
			back := s.Back
			s, _ = impl.DoEdits(s, edits[3*n:3*n+1+n%3])
			if n%7 != 6 {
				s.Back = back
			}
		}
		list = append(list, s)
	}
	return list
}

// TestBuffersOfAnyAgeAreRightAfterTheirStaleRegionWasRepainted presents scenes one after the other.
func TestBuffersOfAnyAgeAreRightAfterTheirStaleRegionWasRepainted(t *testing.T) {
	for seed, first := range append(chainScenes(), fullScenes()...) {
		for n := 1; n <= mostBuffers; n++ {
			sequence := sceneSequence(first, 100+seed, 12)
			c, ok := impl.NewChain(first, n)
			if !ok {
				t.Fatalf("NewChain(%v, %d) is false", first, n)
			}
			presented := []impl.Scene{first}
			for step, s := range sequence {
				later := []impl.Scene{s, sequence[(step+5)%len(sequence)], first}
				checkBuffers(t, c, presented, later)
				c = checkPresent(t, c, s)
				presented = append(presented, s)
				if shown := c.Buffers[slices.Index(c.Ages, 1)]; !equalImages(shown, paintedImage(s)) {
					t.Errorf("after %d presentations, %v shows %v; want %v", step+1, c, shown, s)
				}
			}
			checkBuffers(t, c, presented, sequence)
		}
	}
}

// TestBuffersOfAllAges has buffers of all ages, in each order, which show what was presented: they
// are right after each of the next presentations.
func TestBuffersOfAllAges(t *testing.T) {
	for seed, first := range chainScenes() {
		sequence := sceneSequence(first, 900+seed, 9)
		for _, c := range agedChains(first) {
			last := len(c.Damages)
			c.Scene = sequence[last]
			for k := range c.Damages {
				c.Damages[k] = impl.DamageOf(sequence[last-1-k], sequence[last-k])
			}
			for k, age := range c.Ages {
				if age > 0 {
					c.Buffers[k] = paintedImage(sequence[last+1-age])
				}
			}
			for step := last + 1; step < len(sequence); step++ {
				checkBuffers(t, c, sequence[:step], sequence[step:])
				c = checkPresent(t, c, sequence[step])
			}
			checkBuffers(t, c, sequence, sequence)
		}
	}
}

// TestPresentRejectsInvalidArguments presents scenes that are not valid, or of another size, and
// in chains that are not valid: these are returned as they are.
func TestPresentRejectsInvalidArguments(t *testing.T) {
	reject := func(c impl.Chain, s impl.Scene) {
		if got, k, ok := impl.Present(c, s); ok || k != -1 || !equalChains(got, c) {
			t.Errorf("Present(%v, %v) = %v, %d, %v", c, s, got, k, ok)
		}
	}
	for _, s := range chainScenes() {
		for _, c := range []impl.Chain{agedChain(s, 0, 0), agedChain(s, 3, 3, 1, 2), agedChain(s, 2, 1, 3)} {
			for _, other := range append(scenesOfOtherSizes(s), wrongScenes()...) {
				reject(c, other)
			}
		}
	}
	for _, c := range wrongChains() {
		reject(c, c.Scene)
		reject(c, letterScene())
		reject(c, changedScene(c.Scene, func(x *impl.Scene) { x.W++ }))
	}
}

// spoilChain changes whatever can be reached from a chain.
func spoilChain(c impl.Chain) {
	for k, buffer := range c.Buffers {
		for place := range buffer.Data {
			buffer.Data[place] = -5
		}
		_ = append(buffer.Data, -6)
		c.Buffers[k] = impl.Image{W: -7}
	}
	for k, damage := range c.Damages {
		for n := range damage.Rects {
			damage.Rects[n] = rect(-1, -1, -1, -1)
		}
		_ = append(damage.Rects, rect(-2, -2, -2, -2))
		c.Damages[k] = impl.Region{}
	}
	for k := range c.Ages {
		c.Ages[k] = -8
	}
	_, _, _ = append(c.Buffers, impl.Image{}), append(c.Ages, -9), append(c.Damages, impl.Region{})
	spoil(c.Scene)
}

// chainMemory is what a chain and a scene in front of spare capacity are made of.
type chainMemory struct {
	pixels   []int
	buffers  []impl.Image
	ages     []int
	rects    []impl.Rect
	damages  []impl.Region
	surfaces []impl.Surface
}

func newChainMemory() chainMemory {
	m := chainMemory{pixels: slices.Repeat([]int{1, 2, 0xff000003, 4, 0xff000005}, 6), ages: []int{0, 2, 1, 1, 3, 0}}
	m.rects = []impl.Rect{rect(9, 9, 9, 9), rect(0, 0, 2, 1), rect(1, 1, 1, 1), rect(2, 1, 1, 1), rect(8, 8, 8, 8)}
	for k := range 5 {
		m.buffers = append(m.buffers, impl.Image{W: 3, H: 2, Data: m.pixels[2*k : 2*k+6]})
		m.damages = append(m.damages, impl.Region{Rects: m.rects[k%3+1 : k%3+2]})
		m.surfaces = append(m.surfaces, newSurface(k+1, k%2, 0, impl.Image{W: 2, H: 2, Data: m.pixels[3*k+1 : 3*k+5]}))
	}
	return m
}

// chain is a part of the memory.
func (m chainMemory) chain(back int) impl.Chain {
	s := impl.Scene{W: 3, H: 2, Back: back, Surfaces: m.surfaces[1:3]}
	return impl.Chain{Buffers: m.buffers[1:3], Ages: m.ages[1:3], Damages: m.damages[1:3], Scene: s}
}

// equals compares all of the memory.
func (m chainMemory) equals(other chainMemory) bool {
	return slices.Equal(m.pixels, other.pixels) && slices.EqualFunc(m.buffers, other.buffers, equalImages) && slices.Equal(m.ages, other.ages) &&
		slices.Equal(m.rects, other.rects) && slices.EqualFunc(m.damages, other.damages, sameForm) && slices.EqualFunc(m.surfaces, other.surfaces, equalSurfaces)
}

// TestChainsShareNoMemory presents scenes, or fails to, and changes the results.
func TestChainsShareNoMemory(t *testing.T) {
	m := newChainMemory()
	for _, back := range []int{0xff102030, 0} {
		for _, surfaces := range [][]impl.Surface{m.surfaces[1:3], m.surfaces[2:4], m.surfaces[:0]} {
			for _, w := range []int{3, 2} {
				c, s := m.chain(back), impl.Scene{W: w, H: 2, Back: 0xff102030, Surfaces: surfaces}
				chains := func() []impl.Chain {
					presented, _, _ := impl.Present(c, s)
					started, _ := impl.NewChain(s, 2)
					stale := impl.Chain{Damages: []impl.Region{impl.StaleRegion(c, 0, s), impl.StaleRegion(c, 1, s)}}
					return []impl.Chain{presented, started, stale}
				}
				want := chains()
				for k, x := range want {
					want[k] = copyOfChain(x)
				}
				for _, x := range chains() {
					spoilChain(x)
				}
				impl.ChainOk(c)
				impl.NextBuffer(c)
				if !m.equals(newChainMemory()) {
					t.Fatalf("the arguments became %v", m)
				}
				for k, x := range chains() {
					if !equalChains(x, want[k]) {
						t.Errorf("a change of a result is seen in %v; want %v", x, want[k])
					}
				}
			}
		}
	}
}

// TestPartsOfAChainShareNoMemory changes one part of a result after the other: no other part changes.
func TestPartsOfAChainShareNoMemory(t *testing.T) {
	common, points := unlikePixels(3, 2), []impl.Rect{rect(1, 0, 1, 2)}
	for _, back := range []int{0xff000000, 0} {
		s := impl.Scene{W: 3, H: 2, Back: back, Surfaces: []impl.Surface{newSurface(1, 0, 0, common), newSurface(2, 1, 1, common)}}
		c := impl.Chain{Buffers: []impl.Image{common, common, common}, Ages: []int{1, 2, 3}, Damages: []impl.Region{region(points...), region(points...)}, Scene: s}
		c.Damages[0].Rects, c.Damages[1].Rects = points, points
		started, _ := impl.NewChain(changedScene(s, func(x *impl.Scene) { x.Back = 0xff000000 }), 3)
		presented, _, _ := impl.Present(c, s)
		for _, x := range []impl.Chain{started, presented} {
			var parts [][]int
			for _, buffer := range x.Buffers {
				parts = append(parts, buffer.Data)
			}
			for _, surface := range x.Scene.Surfaces {
				parts = append(parts, surface.Buffer.Data)
			}
			for k, part := range parts {
				part[0] = 900 + k
				_ = append(part, 7)
			}
			for k, part := range parts {
				if part[0] != 900+k || len(part) != 6 {
					t.Errorf("after changes of all parts of %v, part %d is %v", x, k, part)
				}
			}
			for k, damage := range x.Damages {
				for n := range damage.Rects {
					damage.Rects[n].W = 900 + k
				}
			}
			for k, damage := range x.Damages {
				for _, r := range damage.Rects {
					if r.W != 900+k {
						t.Errorf("after changes of all damages, damage %d is %v", k, damage)
					}
				}
			}
		}
	}
	if !equalImages(common, unlikePixels(3, 2)) || points[0] != rect(1, 0, 1, 2) {
		t.Errorf("the arguments became %v and %v", common, points)
	}
}
