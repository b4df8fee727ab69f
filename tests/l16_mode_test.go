package tests

import (
	"math"
	"slices"
	"strings"
	"testing"

	"loop.example/g03313/impl"
)

// The limits of a mode are written out, so that a wrong one of the program is found.
const (
	mostModeSize = 40
	mostClock    = 1000000
)

// mode writes a mode on one line of a table: its clock, the parts of a line and those of a frame.
func mode(clock int, line, frame [4]int) impl.Mode {
	return impl.Mode{
		Clock: clock,
		W:     line[0], HFront: line[1], HSync: line[2], HBack: line[3],
		H: frame[0], VFront: frame[1], VSync: frame[2], VBack: frame[3],
	}
}

// modeField is a field of a mode with the limits of its range.
type modeField struct {
	name      string
	low, high int
	of        func(m *impl.Mode) *int
}

func modeFields() []modeField {
	return []modeField{
		{"Clock", 1, mostClock, func(m *impl.Mode) *int { return &m.Clock }},
		{"W", 1, screenSide, func(m *impl.Mode) *int { return &m.W }},
		{"HFront", 0, mostModeSize, func(m *impl.Mode) *int { return &m.HFront }},
		{"HSync", 1, mostModeSize, func(m *impl.Mode) *int { return &m.HSync }},
		{"HBack", 0, mostModeSize, func(m *impl.Mode) *int { return &m.HBack }},
		{"H", 1, screenSide, func(m *impl.Mode) *int { return &m.H }},
		{"VFront", 0, mostModeSize, func(m *impl.Mode) *int { return &m.VFront }},
		{"VSync", 1, mostModeSize, func(m *impl.Mode) *int { return &m.VSync }},
		{"VBack", 0, mostModeSize, func(m *impl.Mode) *int { return &m.VBack }},
	}
}

// changedMode returns a mode with one field set to a number.
func changedMode(m impl.Mode, f modeField, n int) impl.Mode {
	*f.of(&m) = n
	return m
}

// someModes have parts at their limits and between, and parts that are missing; in some of them
// all numbers are unlike.
func someModes() []impl.Mode {
	return []impl.Mode{
		mode(25, [4]int{4, 1, 2, 1}, [4]int{3, 1, 1, 0}),
		mode(1, [4]int{1, 0, 1, 0}, [4]int{1, 0, 1, 0}),
		mode(mostClock, [4]int{1, 0, 1, 0}, [4]int{1, 0, 1, 0}),
		mode(1, [4]int{16, 40, 40, 40}, [4]int{16, 40, 40, 40}),
		mode(mostClock, [4]int{16, 40, 40, 40}, [4]int{16, 40, 40, 40}),
		mode(25175, [4]int{16, 2, 12, 6}, [4]int{10, 5, 3, 14}),
		mode(40000, [4]int{7, 9, 4, 13}, [4]int{16, 1, 8, 2}),
		mode(74250, [4]int{3, 0, 5, 40}, [4]int{2, 40, 1, 0}),
		mode(999, [4]int{16, 0, 1, 0}, [4]int{1, 0, 1, 0}),
		mode(1001, [4]int{1, 0, 1, 0}, [4]int{16, 0, 1, 0}),
		mode(7, [4]int{5, 3, 1, 0}, [4]int{6, 0, 2, 4}),
		mode(12, [4]int{2, 0, 3, 0}, [4]int{4, 7, 1, 0}),
	}
}

// fewSweeps are small parts of lines or frames: all those within these limits.
func fewSweeps() [][4]int {
	var list [][4]int
	for active := 1; active <= 3; active++ {
		for front := range 3 {
			for sync := 1; sync <= 2; sync++ {
				for back := range 3 {
					list = append(list, [4]int{active, front, sync, back})
				}
			}
		}
	}
	return list
}

// smallModes have all pairs of these parts.
func smallModes() []impl.Mode {
	var list []impl.Mode
	for k, line := range fewSweeps() {
		for n, frame := range fewSweeps() {
			list = append(list, mode(1+97*k+n, line, frame))
		}
	}
	return list
}

// outsideOf are numbers just outside of a range and far from it, some of which would be in it if
// they had fewer bits.
func outsideOf(low, high int) []int {
	return []int{
		low - 1, high + 1, low - 2, high + 2, -low - 1, -high, 2*high + 1, low + 1<<32, high + 1<<32, low - 1<<32, low + 1<<40,
		math.MaxInt, math.MinInt, math.MaxInt - 1, math.MinInt + 1, low - 1 - 1<<31, math.MinInt + low,
	}
}

// wrongModes have one or two fields outside of their ranges, or all of them.
func wrongModes() []impl.Mode {
	list := []impl.Mode{{}}
	fields := modeFields()
	for k, f := range fields {
		for _, n := range outsideOf(f.low, f.high) {
			for _, m := range []impl.Mode{someModes()[0], someModes()[1], someModes()[4], someModes()[5]} {
				wrong := changedMode(m, f, n)
				list = append(list, wrong, changedMode(wrong, fields[(k+4)%9], fields[(k+4)%9].low-1), changedMode(wrong, fields[(k+1)%9], math.MinInt))
			}
		}
	}
	for _, n := range []int{-1, 0, 41, mostClock + 1, math.MaxInt, math.MinInt, 1 << 32, 3037000500} {
		wrong := impl.Mode{}
		for _, f := range fields {
			wrong = changedMode(wrong, f, n)
		}
		list = append(list, wrong)
	}
	return list
}

// writtenSweep writes the steps in one direction as letters: active, front, sync and back.
func writtenSweep(active, front, sync, back int) string {
	return strings.Repeat("a", active) + strings.Repeat("f", front) + strings.Repeat("s", sync) + strings.Repeat("b", back)
}

// beamsOf finds by the definition where the beam is in each period of a frame.
func beamsOf(m impl.Mode) []impl.Beam {
	var list []impl.Beam
	line := writtenSweep(m.W, m.HFront, m.HSync, m.HBack)
	for y, down := range writtenSweep(m.H, m.VFront, m.VSync, m.VBack) {
		for x, across := range line {
			list = append(list, impl.Beam{X: x, Y: y, Active: down == 'a' && across == 'a', HSync: across == 's', VSync: down == 's'})
		}
	}
	return list
}

// checkNoBeam checks that the beam is nowhere at a time.
func checkNoBeam(t *testing.T, m impl.Mode, at int) {
	t.Helper()
	if got, ok := impl.BeamAt(m, at); ok || got != (impl.Beam{}) {
		t.Errorf("BeamAt(%+v, %d) = %+v, %v", m, at, got, ok)
	}
}

func TestModeSizeLimit(t *testing.T) {
	if impl.MaxModeSize != mostModeSize {
		t.Error("MaxModeSize is", impl.MaxModeSize)
	}
}

func TestModeOkOfEachField(t *testing.T) {
	for _, m := range someModes() {
		if !impl.ModeOk(m) {
			t.Errorf("ModeOk(%+v) is false", m)
		}
		for _, f := range modeFields() {
			for n := f.low - 3; n <= min(f.high, 50)+3; n++ {
				if got, want := impl.ModeOk(changedMode(m, f, n)), f.low <= n && n <= f.high; got != want {
					t.Errorf("ModeOk is %v for %+v with %s %d", got, m, f.name, n)
				}
			}
			for _, n := range []int{f.high - 1, f.high, (f.low + f.high) / 2} {
				if !impl.ModeOk(changedMode(m, f, n)) {
					t.Errorf("ModeOk is false for %+v with %s %d", m, f.name, n)
				}
			}
			for _, n := range outsideOf(f.low, f.high) {
				if impl.ModeOk(changedMode(m, f, n)) {
					t.Errorf("ModeOk is true for %+v with %s %d", m, f.name, n)
				}
			}
		}
	}
}

func TestModeOkOfFieldsAtTheirLimits(t *testing.T) {
	fields := modeFields()
	for bits := range 1 << len(fields) {
		var m impl.Mode
		for k, f := range fields {
			m = changedMode(m, f, []int{f.low, f.high}[bits>>k&1])
		}
		if !impl.ModeOk(m) {
			t.Errorf("ModeOk(%+v) is false", m)
		}
	}
}

func TestModeNumbers(t *testing.T) {
	cases := []struct {
		m                        impl.Mode
		line, frame, blank, rate int
	}{
		{mode(25, [4]int{4, 1, 2, 1}, [4]int{3, 1, 1, 0}), 8, 40, 2, 625000},
		{mode(1, [4]int{1, 0, 1, 0}, [4]int{1, 0, 1, 0}), 2, 4, 1, 250000},
		{mode(mostClock, [4]int{1, 0, 1, 0}, [4]int{1, 0, 1, 0}), 2, 4, 1, 250000000000},
		{mode(1, [4]int{16, 40, 40, 40}, [4]int{16, 40, 40, 40}), 136, 18496, 120, 54},
		{mode(mostClock, [4]int{16, 40, 40, 40}, [4]int{16, 40, 40, 40}), 136, 18496, 120, 54065743},
		{mode(25175, [4]int{16, 2, 12, 6}, [4]int{10, 5, 3, 14}), 36, 1152, 22, 21853298},
		{mode(3, [4]int{1, 0, 2, 0}, [4]int{1, 0, 1, 0}), 3, 6, 1, 500000},
		{mode(2, [4]int{1, 0, 2, 0}, [4]int{1, 0, 1, 0}), 3, 6, 1, 333333},
		{mode(1, [4]int{1, 0, 5, 0}, [4]int{1, 1, 3, 2}), 6, 42, 6, 23809},
		{mode(1000, [4]int{2, 3, 4, 5}, [4]int{6, 7, 8, 9}), 14, 420, 24, 2380952},
	}
	for _, c := range cases {
		line, frame := impl.LineTotal(c.m), impl.FrameTotal(c.m)
		blank, rate := impl.BlankLines(c.m), impl.RefreshRate(c.m)
		if line != c.line || frame != c.frame || blank != c.blank || rate != c.rate {
			t.Errorf("%+v: LineTotal %d, FrameTotal %d, BlankLines %d, RefreshRate %d; want %d, %d, %d, %d", c.m, line, frame, blank, rate, c.line, c.frame, c.blank, c.rate)
		}
	}
}

func TestModeNumbersAreAsDefined(t *testing.T) {
	for _, m := range append(someModes(), smallModes()...) {
		line := len(writtenSweep(m.W, m.HFront, m.HSync, m.HBack))
		height := len(writtenSweep(m.H, m.VFront, m.VSync, m.VBack))
		if got := impl.LineTotal(m); got != line {
			t.Errorf("LineTotal(%+v) = %d; want %d", m, got, line)
		}
		if got := impl.FrameTotal(m); got != line*height {
			t.Errorf("FrameTotal(%+v) = %d; want %d", m, got, line*height)
		}
		if got := impl.BlankLines(m); got != height-m.H {
			t.Errorf("BlankLines(%+v) = %d; want %d", m, got, height-m.H)
		}
	}
}

// TestRefreshRateIsRoundedDown checks that the frames of the rate end within the periods of 1000
// seconds, and that those of a higher one do not.
func TestRefreshRateIsRoundedDown(t *testing.T) {
	for _, m := range append(someModes(), smallModes()...) {
		for _, clock := range []int{m.Clock, 1, 2, 3, 999, 1000, 65537, 999999, mostClock} {
			m.Clock = clock
			rate, places := impl.RefreshRate(m), len(beamsOf(m))
			if periods := clock * 1000 * 1000; rate*places > periods || (rate+1)*places <= periods {
				t.Errorf("RefreshRate(%+v) = %d with %d places", m, rate, places)
			}
		}
	}
}

func TestNumbersOfWrongModesAreZero(t *testing.T) {
	for _, m := range wrongModes() {
		line, frame := impl.LineTotal(m), impl.FrameTotal(m)
		blank, rate := impl.BlankLines(m), impl.RefreshRate(m)
		if impl.ModeOk(m) || line != 0 || frame != 0 || blank != 0 || rate != 0 {
			t.Errorf("%+v: ModeOk %v, LineTotal %d, FrameTotal %d, BlankLines %d, RefreshRate %d", m, impl.ModeOk(m), line, frame, blank, rate)
		}
	}
}

func TestBeamAtPlaces(t *testing.T) {
	m := mode(25, [4]int{4, 1, 2, 1}, [4]int{3, 2, 1, 1})
	cases := []struct {
		at   int
		want impl.Beam
	}{
		{0, impl.Beam{Active: true}},
		{3, impl.Beam{X: 3, Active: true}},
		{4, impl.Beam{X: 4}},
		{5, impl.Beam{X: 5, HSync: true}},
		{6, impl.Beam{X: 6, HSync: true}},
		{7, impl.Beam{X: 7}},
		{8, impl.Beam{Y: 1, Active: true}},
		{19, impl.Beam{X: 3, Y: 2, Active: true}},
		{24, impl.Beam{Y: 3}},
		{29, impl.Beam{X: 5, Y: 3, HSync: true}},
		{39, impl.Beam{X: 7, Y: 4}},
		{40, impl.Beam{Y: 5, VSync: true}},
		{44, impl.Beam{X: 4, Y: 5, VSync: true}},
		{46, impl.Beam{X: 6, Y: 5, HSync: true, VSync: true}},
		{47, impl.Beam{X: 7, Y: 5, VSync: true}},
		{48, impl.Beam{Y: 6}},
		{54, impl.Beam{X: 6, Y: 6, HSync: true}},
		{55, impl.Beam{X: 7, Y: 6}},
	}
	for _, c := range cases {
		if got, ok := impl.BeamAt(m, c.at); !ok || got != c.want {
			t.Errorf("BeamAt(%d) = %+v, %v; want %+v", c.at, got, ok, c.want)
		}
	}
}

// drawnBeams draws a frame, a row for each line: a place is active (A), or has the horizontal (h),
// the vertical (v) or both synchronizations (B), or nothing.
func drawnBeams(m impl.Mode) string {
	var text strings.Builder
	for at := 0; ; at++ {
		beam, ok := impl.BeamAt(m, at)
		if !ok {
			return text.String()
		}
		if beam.X == 0 && beam.Y > 0 {
			text.WriteByte('/')
		}
		switch beam {
		case impl.Beam{X: beam.X, Y: beam.Y, Active: true}:
			text.WriteByte('A')
		case impl.Beam{X: beam.X, Y: beam.Y, HSync: true}:
			text.WriteByte('h')
		case impl.Beam{X: beam.X, Y: beam.Y, VSync: true}:
			text.WriteByte('v')
		case impl.Beam{X: beam.X, Y: beam.Y, HSync: true, VSync: true}:
			text.WriteByte('B')
		case impl.Beam{X: beam.X, Y: beam.Y}:
			text.WriteByte('.')
		default:
			text.WriteByte('?')
		}
	}
}

func TestDrawnFrames(t *testing.T) {
	cases := []struct {
		m    impl.Mode
		want string
	}{
		{mode(1, [4]int{1, 0, 1, 0}, [4]int{1, 0, 1, 0}), "Ah/vB"},
		{mode(1, [4]int{4, 1, 2, 1}, [4]int{3, 1, 1, 0}), "AAAA.hh./AAAA.hh./AAAA.hh./.....hh./vvvvvBBv"},
		{mode(1, [4]int{2, 0, 1, 3}, [4]int{1, 0, 2, 1}), "AAh.../vvBvvv/vvBvvv/..h..."},
		{mode(1, [4]int{1, 2, 3, 0}, [4]int{2, 2, 1, 0}), "A..hhh/A..hhh/...hhh/...hhh/vvvBBB"},
		{mode(1, [4]int{3, 1, 1, 2}, [4]int{1, 1, 1, 2}), "AAA.h../....h../vvvvBvv/....h../....h.."},
	}
	for _, c := range cases {
		if got := drawnBeams(c.m); got != c.want {
			t.Errorf("%+v: drawn as %s; want %s", c.m, got, c.want)
		}
	}
}

func TestBeamAtIsAsDefined(t *testing.T) {
	for _, m := range append(someModes(), smallModes()...) {
		for at, want := range beamsOf(m) {
			if got, ok := impl.BeamAt(m, at); !ok || got != want {
				t.Fatalf("BeamAt(%+v, %d) = %+v, %v; want %+v", m, at, got, ok, want)
			}
		}
	}
}

// TestBeamVisitsEachActivePlaceOnce is promise 16.
func TestBeamVisitsEachActivePlaceOnce(t *testing.T) {
	for _, m := range append(someModes(), smallModes()...) {
		var visits [screenSide][screenSide]int
		for at := range impl.FrameTotal(m) {
			beam, ok := impl.BeamAt(m, at)
			if !ok {
				t.Fatalf("BeamAt(%+v, %d) is false", m, at)
			}
			if !beam.Active {
				continue
			}
			if !contains(rect(0, 0, m.W, m.H), beam.X, beam.Y) {
				t.Fatalf("%+v: an active place at %d, %d", m, beam.X, beam.Y)
			}
			visits[beam.Y][beam.X]++
		}
		for y := range m.H {
			for x := range m.W {
				if visits[y][x] != 1 {
					t.Errorf("%+v: %d visits at %d, %d", m, visits[y][x], x, y)
				}
			}
		}
	}
}

// TestBeamVisitsAllPlacesInOrder checks that the beam moves by one place in each period.
func TestBeamVisitsAllPlacesInOrder(t *testing.T) {
	for _, m := range someModes() {
		line, at := impl.LineTotal(m), 0
		for y := range impl.FrameTotal(m) / line {
			for x := range line {
				if got, ok := impl.BeamAt(m, at); !ok || got.X != x || got.Y != y {
					t.Fatalf("BeamAt(%+v, %d) = %+v, %v; want %d, %d", m, at, got, ok, x, y)
				}
				at++
			}
		}
		checkNoBeam(t, m, at)
	}
}

func TestSynchronizationCounts(t *testing.T) {
	for _, m := range someModes() {
		across, down, both := 0, 0, 0
		for at := range impl.FrameTotal(m) {
			beam, _ := impl.BeamAt(m, at)
			if beam.HSync {
				across++
			}
			if beam.VSync {
				down++
			}
			if beam.HSync && beam.VSync {
				both++
			}
		}
		if across != m.HSync*(m.H+m.VFront+m.VSync+m.VBack) || down != m.VSync*(m.W+m.HFront+m.HSync+m.HBack) || both != m.HSync*m.VSync {
			t.Errorf("%+v: %d and %d places with synchronization, %d with both", m, across, down, both)
		}
	}
}

func TestBeamAtDoesNotDependOnTheClock(t *testing.T) {
	for _, m := range someModes() {
		other := m
		other.Clock = mostClock + 1 - m.Clock
		for at := range impl.FrameTotal(m) {
			a, okA := impl.BeamAt(m, at)
			if b, okB := impl.BeamAt(other, at); a != b || okA != okB {
				t.Fatalf("BeamAt(%+v, %d) is %+v, and %+v with another clock", m, at, a, b)
			}
		}
	}
}

func TestBeamAtRejectsTimesOutsideOfTheFrame(t *testing.T) {
	for _, m := range append(someModes(), smallModes()...) {
		places := len(beamsOf(m))
		if _, ok := impl.BeamAt(m, places-1); !ok {
			t.Errorf("BeamAt(%+v, %d) is false", m, places-1)
		}
		for _, at := range slices.Concat(outsideOf(0, places-1), []int{-places, 2 * places, 2*places - 1, 137 * 137}) {
			checkNoBeam(t, m, at)
		}
	}
}

func TestBeamAtRejectsWrongModes(t *testing.T) {
	for _, m := range wrongModes() {
		for _, at := range []int{0, 1, 2, 3, 39, 40, 1000, 18495, 18496, -1, math.MaxInt, math.MinInt, m.Clock, m.W, m.H, m.W * m.H} {
			checkNoBeam(t, m, at)
		}
	}
}
