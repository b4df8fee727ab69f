package tests

import (
	"math"
	"slices"
	"testing"

	"loop.example/g03313/impl"
)

// mostBuffers is written out, so that a wrong limit of the program is found.
const mostBuffers = 3

// changedChain returns a copy of a chain, with memory of its own, in which something is changed.
func changedChain(c impl.Chain, change func(x *impl.Chain)) impl.Chain {
	c.Buffers, c.Ages, c.Damages = slices.Clone(c.Buffers), slices.Clone(c.Ages), slices.Clone(c.Damages)
	for k, buffer := range c.Buffers {
		c.Buffers[k].Data = slices.Clone(buffer.Data)
	}
	for k, damage := range c.Damages {
		c.Damages[k] = region(slices.Clone(damage.Rects)...)
	}
	c.Scene = copyOfScene(c.Scene)
	change(&c)
	return c
}

func copyOfChain(c impl.Chain) impl.Chain {
	return changedChain(c, func(*impl.Chain) {})
}

// equalChains compares all fields; a nil slice is an empty one.
func equalChains(a, b impl.Chain) bool {
	return slices.EqualFunc(a.Buffers, b.Buffers, equalImages) && slices.Equal(a.Ages, b.Ages) &&
		slices.EqualFunc(a.Damages, b.Damages, sameForm) && equalScenes(a.Scene, b.Scene)
}

// numberLists are all lists of a length whose numbers are in a range.
func numberLists(length, low, high int) [][]int {
	if length == 0 {
		return [][]int{nil}
	}
	var lists [][]int
	for _, list := range numberLists(length-1, low, high) {
		for n := low; n <= high; n++ {
			lists = append(lists, append(slices.Clone(list), n))
		}
	}
	return lists
}

// unlikeDamages are n valid damages, each with a point that no other one has, and with points that
// are not on small screens.
func unlikeDamages(n int) []impl.Region {
	var list []impl.Region
	for k := range n {
		list = append(list, region(rect(k, k, 2, 1), rect(15-k, 15, 1, 1)))
	}
	return list
}

// unlikeBuffers are n valid buffers for a scene.
func unlikeBuffers(s impl.Scene, n int) []impl.Image {
	var list []impl.Image
	for k := range n {
		list = append(list, drawnImage(s.W, s.H, func(x, y int) int { return k<<24 | x<<8 | y }))
	}
	return list
}

// agedChain has a buffer for each age, none of which shows what was painted.
func agedChain(s impl.Scene, damages int, ages ...int) impl.Chain {
	return impl.Chain{Buffers: unlikeBuffers(s, len(ages)), Ages: ages, Damages: unlikeDamages(damages), Scene: s}
}

// areChainAges finds by the definition whether a chain with so many damages may have these ages.
func areChainAges(ages []int, damages int) bool {
	for k, age := range ages {
		if age < 0 || age > mostBuffers || age > damages+1 {
			return false
		}
		for _, other := range ages[k+1:] {
			if age == other && age != 0 {
				return false
			}
		}
	}
	return true
}

// agedChains are chains with all numbers of buffers and damages and all ages that they may have.
func agedChains(s impl.Scene) []impl.Chain {
	var list []impl.Chain
	for n := 1; n <= mostBuffers; n++ {
		for damages := range mostBuffers + 1 {
			for _, ages := range numberLists(n, 0, mostBuffers) {
				if areChainAges(ages, damages) {
					list = append(list, agedChain(s, damages, ages...))
				}
			}
		}
	}
	return list
}

// chainScenes are few scenes with screens of unlike sizes.
func chainScenes() []impl.Scene {
	return []impl.Scene{
		{W: 1, H: 1, Back: 0xff000001}, {W: 16, H: 16, Back: 0xffffffff, Surfaces: someSurfaces()[:3]},
		{W: 3, H: 7, Back: 0xff102030, Surfaces: someSurfaces()[3:6]}, letterScene(solidSurface(1, rect(0, 1, 4, 2))),
	}
}

// wrongChains have one field that is not valid.
func wrongChains() []impl.Chain {
	return slices.Concat(chainsWithWrongBuffers(), chainsWithWrongAges(), chainsWithWrongDamages(), chainsWithWrongScenes())
}

func chainsWithWrongBuffers() []impl.Chain {
	s := letterScene(solidSurface(1, rect(0, 1, 4, 2)))
	list := []impl.Chain{
		{}, {Scene: s}, agedChain(s, 3), agedChain(s, 3, 0, 0, 0, 0), agedChain(s, 3, 1, 2, 3, 0), agedChain(s, 0, 0, 0, 0, 0, 0),
	}
	buffers := append(invalidImages(), unlikePixels(s.W+1, s.H), unlikePixels(s.W, s.H+1), unlikePixels(s.W-1, s.H), unlikePixels(s.W, s.H-1))
	buffers = append(buffers, unlikePixels(s.H, s.W), unlikePixels(10, 2), unlikePixels(16, 16), unlikePixels(1, 1))
	for _, n := range notPixels() {
		for place := range s.W * s.H {
			buffer := unlikePixels(s.W, s.H)
			buffer.Data[place] = n
			buffers = append(buffers, buffer)
		}
	}
	for n, buffer := range buffers {
		for k := range n%mostBuffers + 1 {
			list = append(list, changedChain(agedChain(s, 3, []int{3, 1, 2}[:n%mostBuffers+1]...), func(x *impl.Chain) { x.Buffers[k] = buffer }))
		}
	}
	return list
}

func chainsWithWrongAges() []impl.Chain {
	s := letterScene(solidSurface(1, rect(0, 1, 4, 2)))
	list := []impl.Chain{agedChain(s, 3, 1, 1), agedChain(s, 0, 2), agedChain(s, 1, 3), agedChain(s, 3, 4), agedChain(s, 3, 2, 0, 2)}
	for _, n := range append(farNumbers(), -1, 4) {
		if n < 0 || n > mostBuffers {
			list = append(list, agedChain(s, 3, n), agedChain(s, 3, n, 1), agedChain(s, 3, 1, n), agedChain(s, 3, 0, 1, n))
		}
	}
	for n := range mostBuffers + 1 {
		for other := range 6 {
			if n != other && n > 0 {
				list = append(list, changedChain(agedChain(s, 3, []int{1, 2, 3}[:n]...), func(x *impl.Chain) { x.Ages = []int{1, 2, 3, 0, 0, 0}[:other] }))
			}
		}
	}
	return list
}

func chainsWithWrongDamages() []impl.Chain {
	s := letterScene(solidSurface(1, rect(0, 1, 4, 2)))
	list := []impl.Chain{agedChain(s, 4, 1), agedChain(s, 5, 1, 2), agedChain(s, 9, 0)}
	for _, r := range invalidRegions() {
		for n := 1; n <= mostBuffers; n++ {
			for k := range n {
				list = append(list, changedChain(agedChain(s, n, 1, 0), func(x *impl.Chain) { x.Damages[k] = r }))
			}
		}
	}
	return list
}

func chainsWithWrongScenes() []impl.Chain {
	var list []impl.Chain
	for _, s := range wrongScenes() {
		// The buffers have the size of the screen, unless there is no such image.
		size := impl.Scene{W: min(max(s.W, 0), 32), H: min(max(s.H, 0), 32)}
		list = append(list, impl.Chain{Buffers: unlikeBuffers(size, 2), Ages: []int{1, 2}, Damages: unlikeDamages(3), Scene: s}, impl.Chain{Buffers: unlikeBuffers(size, 1), Ages: []int{0}, Scene: s})
	}
	return list
}

func TestMaxBuffers(t *testing.T) {
	if impl.MaxBuffers != 3 {
		t.Errorf("MaxBuffers is %d", impl.MaxBuffers)
	}
}

func TestChainOk(t *testing.T) {
	for _, s := range append(validScenes(), chainScenes()...) {
		for _, c := range []impl.Chain{agedChain(s, 0, 1), agedChain(s, 1, 2, 0), agedChain(s, 2, 1, 3, 2), agedChain(s, 3, 0, 0, 0)} {
			if !impl.ChainOk(c) {
				t.Errorf("ChainOk(%v) is false", c)
			}
		}
	}
	for _, c := range wrongChains() {
		if impl.ChainOk(c) {
			t.Errorf("ChainOk(%v) is true", c)
		}
	}
}

// TestChainOkOfAllAges tries all ages, with all numbers of buffers and damages.
func TestChainOkOfAllAges(t *testing.T) {
	s := chainScenes()[3]
	for buffers := range mostBuffers + 2 {
		for damages := range mostBuffers + 3 {
			for length := range mostBuffers + 2 {
				for _, ages := range numberLists(length, -1, mostBuffers+2) {
					c := impl.Chain{Buffers: unlikeBuffers(s, buffers), Ages: ages, Damages: unlikeDamages(damages), Scene: s}
					want := 1 <= buffers && buffers <= mostBuffers && length == buffers && damages <= mostBuffers && areChainAges(ages, damages)
					if got := impl.ChainOk(c); got != want {
						t.Errorf("ChainOk is %v with %d buffers, %d damages and the ages %v", got, buffers, damages, ages)
					}
				}
			}
		}
	}
}

// TestChainOkOfDamages tries damages of all forms: whether they are on the screen does not count.
func TestChainOkOfDamages(t *testing.T) {
	for _, s := range chainScenes() {
		for _, drawing := range append(largeDrawings(), smallDrawings(1, 2, 3, 2)...) {
			c := agedChain(s, 3, 2)
			c.Damages[1] = region(drawing.form()...)
			if !impl.ChainOk(c) {
				t.Errorf("ChainOk(%v) is false", c)
			}
		}
	}
}

func TestNewChain(t *testing.T) {
	for _, s := range append(validScenes(), chainScenes()...) {
		for n := 1; n <= mostBuffers; n++ {
			blank := drawnImage(s.W, s.H, func(x, y int) int { return s.Back })
			want := impl.Chain{Buffers: slices.Repeat([]impl.Image{blank}, n), Ages: slices.Repeat([]int{0}, n), Scene: s}
			got, ok := impl.NewChain(s, n)
			if !ok || !equalChains(got, want) || !impl.ChainOk(got) {
				t.Errorf("NewChain(%v, %d) = %v, %v", s, n, got, ok)
			}
		}
	}
}

func TestNewChainRejectsInvalidArguments(t *testing.T) {
	reject := func(s impl.Scene, n int) {
		if got, ok := impl.NewChain(s, n); ok || !equalChains(got, impl.Chain{}) {
			t.Errorf("NewChain(%v, %d) = %v, %v", s, n, got, ok)
		}
	}
	for _, s := range chainScenes() {
		for _, n := range []int{0, -1, -2, -3, 4, 5, 6, 99, 1 << 40, 1<<32 + 1, 1<<32 + 2, math.MaxInt, math.MinInt, math.MinInt + 1} {
			reject(s, n)
		}
	}
	for _, s := range wrongScenes() {
		for n := -1; n <= mostBuffers+1; n++ {
			reject(s, n)
		}
	}
}

// paintedNext finds NextBuffer of a valid chain by its definition.
func paintedNext(c impl.Chain) int {
	oldest := 0
	for k, age := range c.Ages {
		if age == 0 {
			return k
		}
		if age > c.Ages[oldest] {
			oldest = k
		}
	}
	return oldest
}

func TestNextBuffer(t *testing.T) {
	cases := []struct {
		ages []int
		want int
	}{
		{[]int{0}, 0}, {[]int{1}, 0}, {[]int{3}, 0}, {[]int{0, 0}, 0}, {[]int{0, 3}, 0}, {[]int{3, 0}, 1}, {[]int{1, 2}, 1}, {[]int{2, 1}, 0}, {[]int{1, 3}, 1},
		{[]int{0, 0, 0}, 0}, {[]int{3, 0, 0}, 1}, {[]int{1, 2, 0}, 2}, {[]int{0, 1, 2}, 0}, {[]int{1, 2, 3}, 2}, {[]int{1, 3, 2}, 1}, {[]int{3, 1, 2}, 0}, {[]int{2, 0, 3}, 1},
	}
	for _, s := range chainScenes() {
		for _, c := range cases {
			if got := impl.NextBuffer(agedChain(s, 3, c.ages...)); got != c.want {
				t.Errorf("with the ages %v, NextBuffer is %d; want %d", c.ages, got, c.want)
			}
		}
		for _, c := range agedChains(s) {
			if got := impl.NextBuffer(c); got != paintedNext(c) {
				t.Errorf("with the ages %v, NextBuffer is %d; want %d", c.Ages, got, paintedNext(c))
			}
		}
	}
	for _, c := range wrongChains() {
		if got := impl.NextBuffer(c); got != -1 {
			t.Errorf("NextBuffer(%v) = %d", c, got)
		}
	}
}

// stalePoints finds StaleRegion of a buffer of a valid chain by its definition.
func stalePoints(c impl.Chain, k int, s impl.Scene) screenRows {
	if c.Ages[k] == 0 {
		return drawnPoints(func(x, y int) bool { return x < s.W && y < s.H })
	}
	parts := []screenRows{damagedPoints(c.Scene, s)}
	for n := range c.Ages[k] - 1 {
		parts = append(parts, drawnRects(c.Damages[n].Rects))
	}
	return drawnPoints(func(x, y int) bool {
		return slices.ContainsFunc(parts, func(rows screenRows) bool { return rows.has(x, y) })
	})
}

// TestStaleRegionOfFewDamages adds a dot to the scene of a chain with three damages: a row, a column
// and a corner.
func TestStaleRegionOfFewDamages(t *testing.T) {
	dot := solidSurface(3, rect(4, 3, 1, 1))
	row, column, corner := region(rect(0, 0, 3, 1)), region(rect(1, 0, 1, 3)), region(rect(3, 0, 2, 2))
	cases := []struct {
		name    string
		age     int
		damages []impl.Region
		added   []impl.Surface
		rows    string
	}{
		{"nothing painted yet", 0, nil, nil, "#####/#####/#####/#####"},
		{"nothing painted yet, with damages", 0, []impl.Region{row, column, corner}, []impl.Surface{dot}, "#####/#####/#####/#####"},
		{"presented last, the same scene", 1, nil, nil, ""},
		{"presented last", 1, nil, []impl.Surface{dot}, "///....#"},
		{"presented last, with damages", 1, []impl.Region{row, column, corner}, []impl.Surface{dot}, "///....#"},
		{"presented before, the same scene", 2, []impl.Region{row}, nil, "###"},
		{"presented before", 2, []impl.Region{row}, []impl.Surface{dot}, "###///....#"},
		{"presented before, with damages", 2, []impl.Region{corner, row, column}, []impl.Surface{dot}, "...##/...##//....#"},
		{"presented before that, the same scene", 3, []impl.Region{column, corner}, nil, ".#.##/.#.##/.#"},
		{"presented before that", 3, []impl.Region{row, column}, []impl.Surface{dot}, "###../.#/.#/....#"},
		{"presented before that, with damages", 3, []impl.Region{corner, row, column}, []impl.Surface{dot}, "#####/...##//....#"},
		{"presented before that, without damage", 3, []impl.Region{{}, {}, row}, nil, ""},
		{"presented before that, with the damage of all", 3, []impl.Region{{}, row, column}, nil, "###"},
		{"damages that are not on the screen", 3, []impl.Region{region(rect(4, 0, 5, 1)), region(rect(15, 15, 1, 1))}, nil, "....#####///////////////...............#"},
	}
	for _, c := range cases {
		before := letterScene(solidSurface(1, rect(0, 1, 4, 2)))
		after := changedScene(before, func(x *impl.Scene) { x.Surfaces = append(x.Surfaces, c.added...) })
		for k := range mostBuffers {
			chain := impl.Chain{Buffers: unlikeBuffers(before, 3), Ages: make([]int, 3), Damages: c.damages, Scene: before}
			chain.Ages[k] = c.age
			if got := impl.StaleRegion(chain, k, after); !slices.Equal(got.Rects, writtenPoints(c.rows).form()) {
				t.Errorf("%s: StaleRegion of buffer %d is %v; want %s", c.name, k, got, c.rows)
			}
		}
	}
}

// laterScenes are scenes of the same size as s, which is one of them.
func laterScenes(s impl.Scene) []impl.Scene {
	list := []impl.Scene{s, changedScene(s, func(x *impl.Scene) { x.Back ^= 1 }), {W: s.W, H: s.H, Back: s.Back}}
	for seed := range 3 {
		edited, _ := impl.DoEdits(s, manyEdits(7000+seed, 12))
		list = append(list, changedScene(edited, func(x *impl.Scene) { x.Back = s.Back }))
	}
	return list
}

func TestStaleRegionIsAsDefined(t *testing.T) {
	for _, s := range chainScenes() {
		for _, later := range laterScenes(s) {
			for _, c := range agedChains(s) {
				for k := range c.Buffers {
					got, want := impl.StaleRegion(c, k, later), stalePoints(c, k, later)
					if !slices.Equal(got.Rects, want.form()) {
						t.Errorf("StaleRegion(%v, %d, %v) = %v; want %v", c, k, later, got, want.form())
					}
				}
			}
		}
	}
}

// scenesOfOtherSizes have screens that are not as large as that of s.
func scenesOfOtherSizes(s impl.Scene) []impl.Scene {
	var list []impl.Scene
	for _, size := range append(someSizes(), [2]int{s.W, s.H%16 + 1}, [2]int{s.W%16 + 1, s.H}, [2]int{s.H, s.W}, [2]int{s.W%16 + 1, s.H%16 + 1}) {
		if size != [2]int{s.W, s.H} {
			list = append(list, changedScene(s, func(x *impl.Scene) { x.W, x.H = size[0], size[1] }))
		}
	}
	return list
}

func TestStaleRegionRejectsInvalidArguments(t *testing.T) {
	reject := func(c impl.Chain, k int, s impl.Scene) {
		if got := impl.StaleRegion(c, k, s); len(got.Rects) > 0 {
			t.Errorf("StaleRegion(%v, %d, %v) = %v", c, k, s, got)
		}
	}
	for _, s := range chainScenes() {
		for n := 1; n <= mostBuffers; n++ {
			for _, c := range []impl.Chain{agedChain(s, 3, []int{0, 0, 0}[:n]...), agedChain(s, 3, []int{2, 3, 1}[:n]...)} {
				for _, k := range []int{-1, -2, -n, n, n + 1, mostBuffers, 99, 1 << 32, 1<<32 + 1, math.MaxInt, math.MinInt} {
					reject(c, k, changedScene(s, func(x *impl.Scene) { x.Back ^= 1 }))
				}
				for _, other := range append(scenesOfOtherSizes(s), wrongScenes()...) {
					reject(c, 0, other)
					reject(c, n-1, other)
				}
			}
		}
	}
	for _, c := range wrongChains() {
		for k := -1; k <= len(c.Buffers); k++ {
			reject(c, k, c.Scene)
			reject(c, k, letterScene())
		}
	}
}
