package tests

import (
	"math"
	"slices"
	"testing"

	"loop.example/g00982/impl"
)

// plainPeriod returns after how many ticks a face of a level is active again.
func plainPeriod(level int) int {
	return []int{16, 8, 4, 2, 1}[level]
}

// plainActive is the oracle of ActiveFaces: it finds the faces in the text of a mesh.
func plainActive(text string, tick int) []int {
	faces := []int{}
	for i, level := range textFaceLevels(text) {
		if tick >= 0 && tick%plainPeriod(level) == 0 {
			faces = append(faces, i)
		}
	}
	return faces
}

// plainOut returns the tracer that leaves a leaf, without a number above that of the greatest Mass and Tracer.
func plainOut(tracer int, mass int, right int, left int) (int, int) {
	if mass == 0 {
		return 0, 0
	}
	toTheRight := tracer * right / mass
	return toTheRight, tracer*(right+left)/mass - toTheRight
}

// stepPlain is the oracle of StepState. It goes from leaf to leaf instead of from face to face.
func stepPlain(p plainState, tick int) plainState {
	after := plainState{p.text, slices.Clone(p.mass), slices.Clone(p.tracer), p.bed}
	fluxes, active := plainFluxes(p), plainActive(p.text, tick)
	for i := range fluxes {
		if !slices.Contains(active, i) {
			fluxes[i] = 0
		}
	}
	for i := range p.mass {
		right, left := max(0, valueAt(fluxes, i)), max(0, -valueAt(fluxes, i-1))
		toTheRight, toTheLeft := plainOut(p.tracer[i], p.mass[i], right, left)
		after.mass[i] -= right + left
		after.tracer[i] -= toTheRight + toTheLeft
		if right > 0 {
			after.mass[i+1] += right
			after.tracer[i+1] += toTheRight
		}
		if left > 0 {
			after.mass[i-1] += left
			after.tracer[i-1] += toTheLeft
		}
	}
	return after
}

// macroPlain is the oracle of MacroStep and, for all faces at once, of FluxSum.
func macroPlain(p plainState) (plainState, []int) {
	sums := make([]int, len(p.mass)-1)
	for tick := range 16 {
		fluxes := plainFluxes(p)
		for _, i := range plainActive(p.text, tick) {
			sums[i] += fluxes[i]
		}
		p = stepPlain(p, tick)
	}
	return p, sums
}

// wantStep checks the state after one tick.
func wantStep(t *testing.T, s impl.State, tick int, want impl.State) {
	t.Helper()
	if got := impl.StepState(s, tick); !sameAsState(got, want) {
		t.Fatalf("StepState of %q, %v, in the tick %d is %v; want %v", impl.FormatMesh(s.Mesh), s, tick, got, want)
	}
}

// wantMacro checks a macro step and the sum of the fluxes of each face.
func wantMacro(t *testing.T, s impl.State, want impl.State, sums []int) {
	t.Helper()
	if got := impl.MacroStep(s); !sameAsState(got, want) {
		t.Fatalf("MacroStep of %q, %v, is %v; want %v", impl.FormatMesh(s.Mesh), s, got, want)
	}
	for _, i := range indicesAround(len(s.Mass)) {
		if got := impl.FluxSum(s, i); got != valueAt(sums, i) {
			t.Fatalf("FluxSum of %q, %v, at %d is %d; want %d", impl.FormatMesh(s.Mesh), s, i, got, valueAt(sums, i))
		}
	}
}

// wantNoSteps checks what each function says of a state that is not valid.
func wantNoSteps(t *testing.T, s impl.State) {
	t.Helper()
	for _, tick := range []int{0, 1, 8, -1, -16} {
		wantStep(t, s, tick, s)
	}
	if got := impl.MacroStep(s); !sameAsState(got, s) {
		t.Fatalf("MacroStep(%v) = %v; want it unchanged", s, got)
	}
	for _, i := range []int{-1, 0, 1, len(s.Mesh.Leaves) - 2, len(s.Mesh.Leaves) - 1, len(s.Mass) - 1, math.MinInt, math.MaxInt} {
		if got := impl.FluxSum(s, i); got != 0 {
			t.Fatalf("FluxSum(%v, %d) = %d; want 0", s, i, got)
		}
	}
}

// wantActive checks the active faces of a valid mesh.
func wantActive(t *testing.T, m impl.Mesh, tick int, want []int) {
	t.Helper()
	if got := impl.ActiveFaces(m, tick); !slices.Equal(got, want) {
		t.Fatalf("ActiveFaces of %q in the tick %d are %v; want %v", impl.FormatMesh(m), tick, got, want)
	}
}

// wantNoActive checks that a mesh that is not valid has no active faces.
func wantNoActive(t *testing.T, m impl.Mesh) {
	t.Helper()
	for _, tick := range []int{0, 1, 2, 4, 8, 16, -1, -16, math.MinInt} {
		if got := impl.ActiveFaces(m, tick); len(got) != 0 {
			t.Fatalf("ActiveFaces(%v, %d) = %v; want none", m, tick, got)
		}
	}
}

// stepTicks returns ticks of each kind: the first and the last one of a macro step and those around them, one for each
// set of levels that are active together, and large ones.
func stepTicks() []int {
	return []int{0, 1, 2, 3, 4, 6, 8, 10, 12, 15, 16, 17, 24, 1 << 20, 1<<40 + 2, 1<<62 + 8, math.MaxInt - 15, math.MaxInt - 3, math.MaxInt}
}

// negativeTicks returns ticks in which nothing happens, some of which each width divides.
func negativeTicks() []int {
	return []int{-1, -2, -4, -8, -15, -16, -32, -1 << 32, math.MinInt + 1, math.MinInt}
}

func TestLengthOfAMacroStep(t *testing.T) {
	if impl.MacroTicks != 16 {
		t.Errorf("MacroTicks is %d; want 16", impl.MacroTicks)
	}
}

func TestIsActive(t *testing.T) {
	first := [][]int{
		{0, 16, 32},
		{0, 8, 16, 24, 32},
		{0, 4, 8, 12, 16, 20, 24, 28, 32},
		{0, 2, 4, 6, 8, 10, 12, 14, 16, 18, 20, 22, 24, 26, 28, 30, 32},
	}
	for tick := -40; tick <= 33; tick++ {
		for level, ticks := range first {
			if got := impl.IsActive(tick, level); got != slices.Contains(ticks, tick) {
				t.Errorf("IsActive(%d, %d) = %v", tick, level, got)
			}
		}
		if got := impl.IsActive(tick, 4); got != (tick >= 0) {
			t.Errorf("IsActive(%d, 4) = %v", tick, got)
		}
	}
}

func TestIsActiveInLargeTicks(t *testing.T) {
	cases := []struct {
		tick  int
		least int // the least level that is active
	}{
		{1 << 62, 0}, {1<<62 + 1, 4}, {1<<62 + 2, 3}, {1<<62 + 4, 2}, {1<<62 + 8, 1}, {1<<62 + 12, 2}, {1<<62 + 16, 0},
		{1000000000, 0}, {1000000008, 1}, {1000000007, 4}, {1 << 32, 0}, {1<<32 - 1, 4}, {1<<32 - 2, 3}, {1<<32 + 4, 2},
		{math.MaxInt, 4}, {math.MaxInt - 1, 3}, {math.MaxInt - 3, 2}, {math.MaxInt - 7, 1}, {math.MaxInt - 15, 0},
	}
	for _, c := range cases {
		for level := range 5 {
			if got := impl.IsActive(c.tick, level); got != (level >= c.least) {
				t.Errorf("IsActive(%d, %d) = %v; want %v", c.tick, level, got, level >= c.least)
			}
		}
	}
}

// TestIsActiveOfNoFace asks for ticks and levels out of their ranges.
func TestIsActiveOfNoFace(t *testing.T) {
	ticks := append(stepTicks(), negativeTicks()...)
	for _, level := range append(extremeInts(), extremeCellNumbers()...) {
		for _, tick := range ticks {
			if got := impl.IsActive(tick, level); got && (tick < 0 || level < 0 || level > 4) {
				t.Errorf("IsActive(%d, %d) = true", tick, level)
			}
		}
	}
	for _, level := range []int{-1, 5, 6, 16, 60, 63, 64, 65, -4, -60, -64} {
		if impl.IsActive(0, level) || impl.IsActive(16, level) {
			t.Errorf("a face of the level %d is active", level)
		}
	}
}

func TestActiveFaces(t *testing.T) {
	byText := shapesByText()
	cases := []struct {
		text string
		want [5][]int // in the ticks 0, 8, 4, 2 and 1, and in others that are divisible by the same widths
	}{
		{"0", [5][]int{}},
		{"0|0", [5][]int{{0}}},
		{"11", [5][]int{{0}, {0}}},
		{"2222", [5][]int{{0, 1, 2}, {0, 1, 2}, {0, 1, 2}}},
		{"122|0", [5][]int{{0, 1, 2}, {0, 1, 2}, {0, 1, 2}}},
		{"0|0|0|0|0|0|0|0", [5][]int{{0, 1, 2, 3, 4, 5, 6}}},
		{"0|0|11|0|0", [5][]int{{0, 1, 2, 3, 4}, {1, 2, 3}}},
		{"11|0|0", [5][]int{{0, 1, 2}, {0, 1}}},
		{"0|0|11|221", [5][]int{{0, 1, 2, 3, 4, 5}, {1, 2, 3, 4, 5}, {3, 4, 5}}},
		{"0|12344", [5][]int{{0, 1, 2, 3, 4}, {0, 1, 2, 3, 4}, {1, 2, 3, 4}, {2, 3, 4}, {3, 4}}},
		{"44321|0|0", [5][]int{{0, 1, 2, 3, 4, 5}, {0, 1, 2, 3, 4}, {0, 1, 2, 3}, {0, 1, 2}, {0, 1}}},
		{"33222|11", [5][]int{{0, 1, 2, 3, 4, 5}, {0, 1, 2, 3, 4, 5}, {0, 1, 2, 3, 4}, {0, 1}}},
		{"221|0|0|0", [5][]int{{0, 1, 2, 3, 4}, {0, 1, 2}, {0, 1}}},
		{"1332", [5][]int{{0, 1, 2}, {0, 1, 2}, {0, 1, 2}, {0, 1, 2}}},
		{"0|221|0", [5][]int{{0, 1, 2, 3}, {0, 1, 2, 3}, {0, 1, 2}}},
		{"0|12344|0|0", [5][]int{{0, 1, 2, 3, 4, 5, 6}, {0, 1, 2, 3, 4, 5}, {1, 2, 3, 4, 5}, {2, 3, 4, 5}, {3, 4, 5}}},
	}
	ticks := [5][]int{{0, 16, 32, 1 << 62}, {8, 24, 1<<62 + 8}, {4, 12, 20, 28}, {2, 6, 10, 14, 18}, {1, 3, 5, 7, 15, 17, math.MaxInt}}
	for _, c := range cases {
		m := meshWithText(t, c.text, byText)
		for n, same := range ticks {
			for _, tick := range same {
				wantActive(t, m, tick, c.want[n])
			}
		}
	}
}

// TestActiveFacesOfKnownMeshes compares the active faces with those of the text, also in meshes that are not balanced.
func TestActiveFacesOfKnownMeshes(t *testing.T) {
	all, none, some := 0, 0, 0
	for _, k := range knownMeshes() {
		for _, tick := range []int{0, 1, 2, 4, 8, 15, 16, 1<<40 + 6, -1, -16} {
			want := plainActive(k.text, tick)
			wantActive(t, k.mesh, tick, want)
			switch len(want) {
			case 0:
				none++
			case len(k.mesh.Leaves) - 1:
				all++
			default:
				some++
			}
		}
	}
	if min(all, none, some) < 1000 {
		t.Errorf("all faces are active only %d times, none %d times and some %d times", all, none, some)
	}
}

// TestActiveFacesOfEachTick compares the active faces with the level of each face.
func TestActiveFacesOfEachTick(t *testing.T) {
	for _, m := range baseMeshes(t) {
		for tick := -17; tick <= 33; tick++ {
			want := []int{}
			for i := range m.Leaves {
				if impl.IsActive(tick, impl.FaceLevel(m, i)) {
					want = append(want, i)
				}
			}
			wantActive(t, m, tick, want)
		}
	}
}

func TestActiveFacesOfInvalidMeshes(t *testing.T) {
	for _, m := range baseMeshes(t) {
		for spoilt := range spoiltMeshes(m) {
			wantNoActive(t, spoilt)
		}
	}
	for _, roots := range extremeCellNumbers() {
		wantNoActive(t, impl.Mesh{Roots: roots})
		wantNoActive(t, impl.Mesh{Roots: roots, Leaves: []impl.Id{}})
	}
	for _, x := range invalidIds() {
		wantNoActive(t, impl.Mesh{Roots: 2, Leaves: []impl.Id{{}, x}})
		wantNoActive(t, impl.Mesh{Roots: 2, Leaves: []impl.Id{x, {Root: 1}}})
	}
}

func TestActiveFacesInNegativeTicks(t *testing.T) {
	for _, m := range baseMeshes(t) {
		for _, tick := range negativeTicks() {
			wantActive(t, m, tick, nil)
		}
	}
}

type stepCase struct {
	name         string
	text         string
	mass, tracer []int
	bed          []int
	ticks        []int
	wantMass     []int // nil if nothing changes
	wantTracer   []int
}

func wantStepCases(t *testing.T, cases []stepCase) {
	t.Helper()
	byText := shapesByText()
	for _, c := range cases {
		t.Run(c.name, func(t *testing.T) {
			s := plainState{c.text, c.mass, c.tracer, c.bed}.state(t, byText)
			want := s
			if c.wantMass != nil {
				want = plainState{c.text, c.wantMass, c.wantTracer, c.bed}.state(t, byText)
			}
			wantTotals(t, s)
			wantTotals(t, want)
			for _, tick := range c.ticks {
				wantStep(t, s, tick, want)
			}
		})
	}
}

// TestStepsOfOneLevel has faces of each level, in ticks in which they are active and in others.
func TestStepsOfOneLevel(t *testing.T) {
	numbers := func(n ...int) []int { return n }
	high, eight, sixteen := numbers(1000000, 0), numbers(500, 100, 107, 108, 100, 100, 500, 0), numbers(500, 100, 103, 107, 100, 100, 500, 0, 0, 0, 0, 0, 0, 0, 3, 7)
	eightTracers, sixteenTracers := numbers(0, 0, 0, 1080, 0, 0, 1001, 0), numbers(0, 0, 0, 54, 0, 0, 2000, 0, 0, 0, 0, 0, 0, 0, 0, 7000)
	wantStepCases(t, []stepCase{
		{"the level 0", "0|0", numbers(400, 0), numbers(1000, 0), high, numbers(0, 16, 32, 1<<40, math.MaxInt-15), numbers(300, 100), numbers(750, 250)},
		{"the level 0, not active", "0|0", numbers(400, 0), numbers(1000, 0), high, numbers(1, 2, 4, 8, 12, 15, 17, 24, math.MaxInt), nil, nil},
		{"the level 1", "11", numbers(500, 100), numbers(1000, 50), numbers(7), numbers(0, 8, 16, 24, 1<<40+8), numbers(488, 112), numbers(976, 74)},
		{"the level 1, not active", "11", numbers(500, 100), numbers(1000, 50), numbers(7), numbers(1, 2, 4, 7, 9, 12, 15, 20, math.MaxInt), nil, nil},
		{"the level 2", "2222", numbers(500, 100, 100, 116), numbers(1000, 5, 5, 232), numbers(7), numbers(0, 4, 8, 12, 16, 20), numbers(475, 125, 101, 115), numbers(950, 55, 7, 230)},
		{"the level 2, not active", "2222", numbers(500, 100, 100, 116), numbers(1000, 5, 5, 232), numbers(7), numbers(1, 2, 3, 6, 15, 18, math.MaxInt), nil, nil},
		{"the level 3", "33333333", eight, eightTracers, numbers(7), numbers(0, 2, 4, 8, 14, 16, 18, math.MaxInt-1), numbers(450, 150, 107, 107, 101, 150, 388, 62), numbers(0, 0, 0, 1070, 10, 100, 777, 124)},
		{"the level 3, not active", "33333333", eight, eightTracers, numbers(7), numbers(1, 3, 15, 17, math.MaxInt), nil, nil},
		{"the level 4", "4444444444444444", sixteen, sixteenTracers, numbers(7), numbers(0, 1, 2, 15, 16, 17, math.MaxInt), numbers(400, 200, 104, 105, 101, 200, 275, 125, 0, 0, 0, 0, 0, 0, 4, 6), numbers(0, 0, 1, 53, 0, 400, 1100, 500, 0, 0, 0, 0, 0, 0, 1000, 6000)},
		{"the level 4, in negative ticks", "4444444444444444", sixteen, sixteenTracers, numbers(7), negativeTicks(), nil, nil},
		{"the level 0, in negative ticks", "0|0", numbers(400, 0), numbers(1000, 0), high, negativeTicks(), nil, nil},
	})
}

// TestStepsOfSeveralLevels has faces of which some are active and others are not.
func TestStepsOfSeveralLevels(t *testing.T) {
	numbers := func(n ...int) []int { return n }
	text, mass, tracer, flat := "0|0|11|221", numbers(6400, 3200, 1200, 800, 200, 100, 0), numbers(0, 32000, 0, 0, 0, 0, 0), make([]int, 4)
	passed := numbers(0, 31920, 80, 0, 0, 0, 0)
	deepText, deepMass, clean := "0|12344", numbers(6400, 1600, 400, 100, 25, 0), make([]int, 6)
	wantStepCases(t, []stepCase{
		{"the given example", "122", numbers(400, 0, 7), numbers(1000, 0, 21), numbers(0), numbers(0, 4, 8, 12, 16), numbers(392, 8, 7), numbers(980, 20, 21)},
		{"the given example, not active", "122", numbers(400, 0, 7), numbers(1000, 0, 21), numbers(0), numbers(1, 2, 3, 5, 6, 14, 15, 17), nil, nil},
		{"the levels 0 to 2", text, mass, tracer, flat, numbers(0, 16, 1<<40), numbers(6350, 3242, 1196, 804, 202, 102, 4), passed},
		{"the levels 1 and 2", text, mass, tracer, flat, numbers(8, 24, math.MaxInt-7), numbers(6400, 3192, 1196, 804, 202, 102, 4), passed},
		{"the level 2 alone", text, mass, tracer, flat, numbers(4, 12, 20, math.MaxInt-3), numbers(6400, 3200, 1200, 792, 202, 102, 4), tracer},
		{"none of the levels 0 to 2", text, mass, tracer, flat, numbers(1, 2, 3, 6, 14, 15, 17, math.MaxInt), nil, nil},
		{"the levels 1 to 4", deepText, deepMass, clean, numbers(0, 0), numbers(0, 8, 16), numbers(6367, 1617, 408, 104, 23, 6), clean},
		{"the levels 2 to 4", deepText, deepMass, clean, numbers(0, 0), numbers(4, 12, 20), numbers(6400, 1584, 408, 104, 23, 6), clean},
		{"the levels 3 and 4", deepText, deepMass, clean, numbers(0, 0), numbers(2, 6, 14, 18), numbers(6400, 1600, 392, 104, 23, 6), clean},
		{"the level 4 alone", deepText, deepMass, clean, numbers(0, 0), numbers(1, 3, 15, 17, math.MaxInt), numbers(6400, 1600, 400, 96, 23, 6), clean},
	})
}

// TestStepsOnBothSides has leaves that gain or lose something on both sides.
func TestStepsOnBothSides(t *testing.T) {
	numbers := func(n ...int) []int { return n }
	hill, pit, flat := numbers(0, 1000000, 0), numbers(140, 0, 140), numbers(0, 0, 0)
	start := numbers(0)
	wantStepCases(t, []stepCase{
		{"a leaf that is left on both sides", "0|0|0", numbers(0, 402, 0), numbers(0, 201, 0), hill, start, numbers(100, 202, 100), numbers(50, 101, 50)},
		{"a leaf that is left on both sides, with a rest", "0|0|0", numbers(0, 402, 0), numbers(0, 204, 0), hill, start, numbers(100, 202, 100), numbers(51, 103, 50)},
		{"a leaf that is left on both sides, with one unit", "0|0|0", numbers(0, 402, 0), numbers(0, 3, 0), hill, start, numbers(100, 202, 100), numbers(1, 2, 0)},
		{"a leaf that is left on both sides, with the greatest share", "0|0|0", numbers(0, 402, 0), numbers(0, 402000, 0), hill, start, numbers(100, 202, 100), numbers(100000, 202000, 100000)},
		{"a leaf that is left on both sides by different amounts", "0|0|0", numbers(320, 640, 128), numbers(0, 640, 0), flat, start, numbers(325, 627, 136), numbers(5, 627, 8)},
		{"a leaf that gains something on both sides", "0|0|0", numbers(500, 0, 500), numbers(1000, 0, 500), pit, start, numbers(490, 20, 490), numbers(980, 30, 490)},
		{"a leaf that gains something on both sides, and has something", "0|0|0", numbers(640, 320, 640), numbers(640, 3, 1280), flat, start, numbers(635, 330, 635), numbers(635, 18, 1270)},
		{"into a leaf and out of it, to the right", "0|0|0", numbers(6400, 640, 0), numbers(3200, 64, 0), flat, start, numbers(6310, 720, 10), numbers(3155, 108, 1)},
		{"into a leaf and out of it, to the left", "0|0|0", numbers(0, 640, 6400), numbers(0, 64, 3200), flat, start, numbers(10, 720, 6310), numbers(1, 108, 3155)},
		{"tracer into a leaf, and none out of it", "0|0|0", numbers(6400, 640, 0), numbers(3200, 0, 0), flat, start, numbers(6310, 720, 10), numbers(3155, 45, 0)},
		{"tracer out of a leaf, and none into it", "0|0|0", numbers(6400, 640, 0), numbers(0, 640, 0), flat, start, numbers(6310, 720, 10), numbers(0, 630, 10)},
		{"into a leaf without mass, from the left, and no further", "0|0|0", numbers(6400, 0, 0), numbers(6400, 0, 0), flat, start, numbers(6300, 100, 0), numbers(6300, 100, 0)},
		{"into a leaf without mass, from the right, and no further", "0|0|0", numbers(0, 0, 6400), numbers(0, 0, 6400), flat, start, numbers(0, 100, 6300), numbers(0, 100, 6300)},
		{"over the crest of a leaf that is too full afterwards", "0|0|0", numbers(6400, 64, 64), numbers(0, 0, 0), flat, start, numbers(6301, 163, 64), numbers(0, 0, 0)},
		{"a quarter out of each leaf", "0|0|0", numbers(400, 80, 12), numbers(400, 160, 36), numbers(1000000, 500000, 0), start, numbers(300, 160, 32), numbers(300, 220, 76)},
	})
}

// TestStepsWithoutAFlow has leaves through whose faces nothing flows.
func TestStepsWithoutAFlow(t *testing.T) {
	numbers := func(n ...int) []int { return n }
	wantStepCases(t, []stepCase{
		{"one leaf", "0", numbers(500), numbers(7), numbers(9), stepTicks(), nil, nil},
		{"one leaf with the greatest mass and tracer", "0", numbers(10000000), numbers(10000000000), numbers(1000000), stepTicks(), nil, nil},
		{"one leaf without mass", "0", numbers(0), numbers(0), numbers(0), stepTicks(), nil, nil},
		{"leaves without mass", "0|11|221", make([]int, 6), make([]int, 6), numbers(1000000, 0, 7), stepTicks(), nil, nil},
		{"equal surfaces over different beds, with different shares", "0|11|0", numbers(300, 100, 100, 200), numbers(300000, 7, 0, 1), numbers(0, 100, 100), stepTicks(), nil, nil},
		{"fluxes that are rounded to 0", "0|0", numbers(563, 500), numbers(563000, 0), numbers(0, 0), stepTicks(), nil, nil},
		{"masses of less than 4", "0|0|0", numbers(3, 0, 3), numbers(3000, 0, 1), numbers(1000000, 0, 1000000), stepTicks(), nil, nil},
	})
}

func TestStepsAtTheGreatestNumbers(t *testing.T) {
	numbers := func(n ...int) []int { return n }
	text, high := "12344|44321", numbers(1000000, 0)
	one := func(n int) []int { return numbers(0, 0, 0, 0, n, 0, 0, 0, 0, 0) }
	three := func(left int, stays int, right int) []int { return numbers(0, 0, 0, left, stays, right, 0, 0, 0, 0) }
	wantStepCases(t, []stepCase{
		{"the greatest mass and tracer", text, one(10000000), one(10000000000), high, stepTicks(), three(2500000, 5000000, 2500000), three(2500000000, 5000000000, 2500000000)},
		{"one unit of tracer less", text, one(10000000), one(9999999999), high, stepTicks(), three(2500000, 5000000, 2500000), three(2500000000, 5000000000, 2499999999)},
		{"one unit of mass less", text, one(9999999), one(9999999000), high, stepTicks(), three(2499999, 5000001, 2499999), three(2499999000, 5000001000, 2499999000)},
		{"one unit of tracer", text, one(10000000), one(1), high, stepTicks(), three(2500000, 5000000, 2500000), one(1)},
		{"no tracer", text, one(10000000), one(0), high, stepTicks(), three(2500000, 5000000, 2500000), one(0)},
		{"the greatest mass and tracer in one of eight roots", "0|0|0|0|0|0|0|0", numbers(0, 0, 0, 0, 0, 0, 0, 10000000), numbers(0, 0, 0, 0, 0, 0, 0, 10000000000), make([]int, 8), numbers(0, 16), numbers(0, 0, 0, 0, 0, 0, 156250, 9843750), numbers(0, 0, 0, 0, 0, 0, 156250000, 9843750000)},
	})
}

type macroCase struct {
	name         string
	text         string
	mass, tracer []int
	bed          []int
	wantMass     []int
	wantTracer   []int
	sums         []int
}

func TestMacroStep(t *testing.T) {
	byText := shapesByText()
	numbers := func(n ...int) []int { return n }
	for _, c := range []macroCase{
		{"the level 0, active once", "0|0", numbers(400, 0), numbers(1000, 0), numbers(1000000, 0), numbers(300, 100), numbers(750, 250), numbers(100)},
		{"the level 1, active twice", "11", numbers(500, 100), numbers(1000, 0), numbers(7), numbers(477, 123), numbers(954, 46), numbers(23)},
		{"between two levels, active twice", "0|11", numbers(800, 0, 0), numbers(0, 0, 0), numbers(0, 0), numbers(784, 16, 0), numbers(0, 0, 0), numbers(16, 0)},
		{"into the coarser leaf", "11|0", numbers(0, 0, 800), numbers(0, 0, 800), numbers(0, 0), numbers(0, 16, 784), numbers(0, 16, 784), numbers(0, -16)},
		{"the level 2, active four times", "2222", numbers(256, 0, 0, 0), numbers(256, 0, 0, 0), numbers(0), numbers(204, 48, 4, 0), numbers(204, 48, 4, 0), numbers(52, 4, 0)},
		{"one leaf", "0", numbers(500), numbers(7), numbers(9), numbers(500), numbers(7), nil},
		{"leaves without mass", "0|11", numbers(0, 0, 0), numbers(0, 0, 0), numbers(5, 0), numbers(0, 0, 0), numbers(0, 0, 0), numbers(0, 0)},
		{"equal surfaces", "0|11", numbers(300, 100, 100), numbers(9, 8, 7), numbers(0, 100), numbers(300, 100, 100), numbers(9, 8, 7), numbers(0, 0)},
	} {
		t.Run(c.name, func(t *testing.T) {
			want := plainState{c.text, c.wantMass, c.wantTracer, c.bed}.state(t, byText)
			wantTotals(t, want)
			wantMacro(t, plainState{c.text, c.mass, c.tracer, c.bed}.state(t, byText), want, c.sums)
		})
	}
}

// TestStepsOfKnownStates compares StepState with its oracle, on states of all shapes.
func TestStepsOfKnownStates(t *testing.T) {
	byText := shapesByText()
	for n, p := range fluxPlains() {
		for _, p := range []plainState{p, brewedPlain(p)} {
			s := p.state(t, byText)
			for k, tick := range stepTicks() {
				if tick < 16 || (n+k)%7 == 0 {
					wantStep(t, s, tick, stepPlain(p, tick).state(t, byText))
				}
			}
			wantStep(t, s, negativeTicks()[n%len(negativeTicks())], s)
		}
	}
}

// TestMacroStepsOfKnownStates compares MacroStep and FluxSum with their oracles: at the first and at the last face, and
// in one state of seven at each face.
func TestMacroStepsOfKnownStates(t *testing.T) {
	byText := shapesByText()
	for n, p := range fluxPlains() {
		p = brewedPlain(p)
		s := p.state(t, byText)
		after, sums := macroPlain(p)
		if n%7 == 0 && len(p.mass) < 40 {
			wantMacro(t, s, after.state(t, byText), sums)
			continue
		}
		if got := impl.MacroStep(s); !sameAsState(got, after.state(t, byText)) {
			t.Fatalf("MacroStep of %v is %v; want %v", p, got, after)
		}
		for _, i := range []int{-1, 0, len(sums) - 1, len(sums)} {
			if got := impl.FluxSum(s, i); got != valueAt(sums, i) {
				t.Fatalf("FluxSum of %v at %d is %d; want %d", p, i, got, valueAt(sums, i))
			}
		}
	}
}

// wantNothingLost checks that a state is one that a step can give: the totals, the mesh and the beds are those of the
// state before it, and no share is out of the range of those before.
func wantNothingLost(t *testing.T, before impl.State, after impl.State) {
	t.Helper()
	if !sameAsMesh(after.Mesh, before.Mesh) || !slices.Equal(after.Bed, before.Bed) {
		t.Fatalf("the mesh or the beds of %v and %v differ", before, after)
	}
	wantNoOtherShares(t, before, after)
}

// TestAStepNeitherCreatesNorLosesAnything states the promise itself, for ticks and macro steps.
func TestAStepNeitherCreatesNorLosesAnything(t *testing.T) {
	byText := shapesByText()
	changed, kept := 0, 0
	for _, p := range fluxPlains() {
		for _, s := range []impl.State{p.state(t, byText), brewedPlain(p).state(t, byText)} {
			for _, tick := range []int{0, 1, 4, 8, 15, 1<<62 + 2} {
				after := impl.StepState(s, tick)
				wantNothingLost(t, s, after)
				if sameAsState(after, s) {
					kept++
				} else {
					changed++
				}
			}
			wantNothingLost(t, s, impl.MacroStep(s))
		}
	}
	for _, s := range baseStates(t) {
		wantNothingLost(t, s, impl.StepState(s, 0))
		wantNothingLost(t, s, impl.MacroStep(s))
	}
	if min(changed, kept) < 500 {
		t.Errorf("only %d steps change something, and %d nothing", changed, kept)
	}
}

// TestManyStepsNeitherCreateNorLoseAnything goes on from the state after each macro step.
func TestManyStepsNeitherCreateNorLoseAnything(t *testing.T) {
	byText := shapesByText()
	for _, p := range append(richPlains(), filledPlain("12344|3321|0|11|2233443", 3), filledPlain("4444444444444444|33222|11", 5)) {
		first := p.state(t, byText)
		last := first
		for range 300 {
			next := impl.MacroStep(last)
			wantNothingLost(t, last, next)
			last = next
		}
		wantNothingLost(t, first, last)
	}
}

// TestEqualSharesStayEqual has the same share in all leaves, so that each Tracer follows from its Mass.
func TestEqualSharesStayEqual(t *testing.T) {
	byText := shapesByText()
	for n, p := range fluxPlains() {
		share := []int{0, 1, 2, 7, 333, 999, 1000}[n%7]
		even := plainState{text: p.text, mass: p.mass, bed: p.bed}
		for _, mass := range p.mass {
			even.tracer = append(even.tracer, share*mass)
		}
		after := impl.MacroStep(even.state(t, byText))
		for i, mass := range after.Mass {
			if after.Tracer[i] != share*mass {
				t.Fatalf("the leaf %d has %d in %d after a macro step of %v, in which each share is %d", i, after.Tracer[i], mass, even, share)
			}
		}
	}
}

// TestMassesDoNotDependOnTheTracer compares the steps of states that differ in their tracers.
func TestMassesDoNotDependOnTheTracer(t *testing.T) {
	byText := shapesByText()
	for _, p := range fluxPlains() {
		clean := cleanPlain(p.text, p.mass, p.bed).state(t, byText)
		brewed := brewedPlain(p).state(t, byText)
		a, b := impl.MacroStep(clean), impl.MacroStep(brewed)
		if !slices.Equal(a.Mass, b.Mass) || slices.Max(a.Tracer) != 0 {
			t.Fatalf("a macro step of %v gives the masses %v, and %v without tracer", p, b.Mass, a.Mass)
		}
	}
}

// TestStepsFromTheOtherSide compares the masses with those of the same channel seen from the other side.
func TestStepsFromTheOtherSide(t *testing.T) {
	byText := shapesByText()
	for _, p := range balancedPlains() {
		s, mirrored := p.state(t, byText), mirroredPlain(p).state(t, byText)
		for _, tick := range []int{0, 1, 2, 4, 8} {
			if got, want := impl.StepState(mirrored, tick).Mass, fromTheEnd(impl.StepState(s, tick).Mass); !slices.Equal(got, want) {
				t.Fatalf("the tick %d of %v gives the masses %v from the other side; want %v", tick, p, got, want)
			}
		}
		for _, i := range []int{0, len(p.mass) - 2} {
			if got, want := impl.FluxSum(mirrored, i), -impl.FluxSum(s, len(p.mass)-2-i); got != want {
				t.Fatalf("FluxSum of %v is %d from the other side; want %d", p, got, want)
			}
		}
	}
}

// activeFluxes returns the flux of each face, and 0 for one that is not active in the tick.
func activeFluxes(s impl.State, tick int) []int {
	fluxes := impl.AllFluxes(s)
	for i := range fluxes {
		if !impl.IsActive(tick, impl.FaceLevel(s.Mesh, i)) {
			fluxes[i] = 0
		}
	}
	return fluxes
}

// TestStepsMoveTheTracerOfSingleFaces has leaves that lose something on one side at most, and so do their neighbours:
// what moves is then TracerFlux.
func TestStepsMoveTheTracerOfSingleFaces(t *testing.T) {
	byText := shapesByText()
	single := 0
	for n, p := range fluxPlains() {
		s := brewedPlain(p).state(t, byText)
		tick := []int{0, 8, 4, 2, 1}[n%5]
		fluxes := activeFluxes(s, tick)
		onBoth := func(i int) bool { return valueAt(fluxes, i-1) < 0 && valueAt(fluxes, i) > 0 }
		moved := make([]int, len(fluxes))
		for i, flux := range fluxes {
			if flux != 0 {
				moved[i] = impl.TracerFlux(s, i)
			}
		}
		after := impl.StepState(s, tick)
		for i, tracer := range s.Tracer {
			if onBoth(i-1) || onBoth(i) || onBoth(i+1) {
				continue
			}
			if valueAt(moved, i) != 0 || valueAt(moved, i-1) != 0 {
				single++
			}
			if want := tracer + valueAt(moved, i-1) - valueAt(moved, i); after.Tracer[i] != want {
				t.Fatalf("the leaf %d of %v has the tracer %d after the tick %d; want %d", i, s, after.Tracer[i], tick, want)
			}
		}
	}
	if single < 1000 {
		t.Errorf("tracer moves only from or to %d such leaves", single)
	}
}

// TestEachLeafGainsWhatFlowsIntoIt compares the masses with AllFluxes of the state before the tick.
func TestEachLeafGainsWhatFlowsIntoIt(t *testing.T) {
	byText := shapesByText()
	for n, p := range fluxPlains() {
		s := p.state(t, byText)
		tick := []int{0, 8, 4, 2, 1}[n%5]
		fluxes, after := activeFluxes(s, tick), impl.StepState(s, tick)
		for i, mass := range s.Mass {
			if want := mass + valueAt(fluxes, i-1) - valueAt(fluxes, i); after.Mass[i] != want {
				t.Fatalf("the leaf %d of %v has the mass %d after the tick %d; want %d", i, s, after.Mass[i], tick, want)
			}
		}
	}
}

// TestStepsOfFacesThatAreNotActive looks at the leaves none of whose faces is active: they keep what they have.
func TestStepsOfFacesThatAreNotActive(t *testing.T) {
	byText := shapesByText()
	kept := 0
	for _, p := range fluxPlains() {
		s := brewedPlain(p).state(t, byText)
		for _, tick := range []int{8, 4, 2, 1} {
			active := impl.ActiveFaces(s.Mesh, tick)
			after := impl.StepState(s, tick)
			for i := range s.Mass {
				if slices.Contains(active, i-1) || slices.Contains(active, i) {
					continue
				}
				kept++
				if after.Mass[i] != s.Mass[i] || after.Tracer[i] != s.Tracer[i] {
					t.Fatalf("the leaf %d of %v has no active face in the tick %d, which gives %v", i, s, tick, after)
				}
			}
		}
	}
	if kept < 1000 {
		t.Errorf("only %d leaves have no active face", kept)
	}
}

// TestMacroStepIsItsTicksInOrder also counts the states for which another order gives something else.
func TestMacroStepIsItsTicksInOrder(t *testing.T) {
	byText := shapesByText()
	otherOrder := 0
	for _, p := range fluxPlains() {
		s := brewedPlain(p).state(t, byText)
		forward, backward := s, s
		for tick := range 16 {
			forward = impl.StepState(forward, tick)
			backward = impl.StepState(backward, 15-tick)
		}
		got := impl.MacroStep(s)
		if !sameAsState(got, forward) {
			t.Fatalf("MacroStep of %v is %v; its ticks in order give %v", s, got, forward)
		}
		if !sameAsState(got, backward) {
			otherOrder++
		}
	}
	if otherOrder < 1000 {
		t.Errorf("only %d states tell the order of the ticks", otherOrder)
	}
}

// TestFluxSumIsWhatTheLeavesOnOneSideLose compares FluxSum with the masses before and after a macro step.
func TestFluxSumIsWhatTheLeavesOnOneSideLose(t *testing.T) {
	byText := shapesByText()
	toTheRight, toTheLeft := 0, 0
	for n, p := range fluxPlains() {
		s := p.state(t, byText)
		after := impl.MacroStep(s)
		lost := 0
		for i := range len(s.Mass) - 1 {
			lost += s.Mass[i] - after.Mass[i]
			if i > 0 && i < len(s.Mass)-2 && (n+i)%11 != 0 {
				continue
			}
			if got := impl.FluxSum(s, i); got != lost {
				t.Fatalf("FluxSum of %v at %d is %d; the leaves up to there lose %d", s, i, got, lost)
			}
			if lost > 0 {
				toTheRight++
			} else if lost < 0 {
				toTheLeft++
			}
		}
	}
	if min(toTheRight, toTheLeft) < 1000 {
		t.Errorf("only %d sums are positive, and %d are negative", toTheRight, toTheLeft)
	}
}

// TestFluxSumOfAFlowThatTurns has a face through which something flows to the right at first, and then to the left.
func TestFluxSumOfAFlowThatTurns(t *testing.T) {
	byText := shapesByText()
	turned := 0
	for _, p := range fluxPlains() {
		s := p.state(t, byText)
		first, last := impl.AllFluxes(s), impl.AllFluxes(impl.MacroStep(s))
		for i := range first {
			if impl.FaceLevel(s.Mesh, i) > 0 && first[i] > 0 && last[i] < 0 && turned < 200 {
				turned++
				_, sums := macroPlain(p)
				if got := impl.FluxSum(s, i); got != sums[i] {
					t.Fatalf("FluxSum of %v at %d is %d; want %d", s, i, got, sums[i])
				}
			}
		}
	}
	if turned < 20 {
		t.Errorf("only %d flows turn", turned)
	}
}

func TestFluxSumAtExtremeIndices(t *testing.T) {
	byText := shapesByText()
	for _, p := range richPlains() {
		s := p.state(t, byText)
		_, sums := macroPlain(p)
		if slices.Contains(sums, 0) {
			t.Errorf("the sums of %v are %v", p, sums)
		}
		for _, i := range append(extremeInts(), extremeCellNumbers()...) {
			if got := impl.FluxSum(s, i); got != valueAt(sums, i) {
				t.Errorf("FluxSum(%v, %d) = %d; want %d", s, i, got, valueAt(sums, i))
			}
		}
	}
}

func TestStepsInNegativeTicks(t *testing.T) {
	byText := shapesByText()
	states := baseStates(t)
	for _, p := range richPlains() {
		states = append(states, p.state(t, byText))
	}
	for _, s := range states {
		for _, n := range append(negativeTicks(), extremeInts()...) {
			if n < 0 {
				wantStep(t, s, n, s)
			}
		}
	}
}

func TestStepsOfInvalidStates(t *testing.T) {
	for s := range invalidStates(t) {
		wantNoSteps(t, s)
	}
	for _, s := range almostValidStates(t) {
		wantNoSteps(t, s)
	}
}

// TestStepsOfRichStatesThatAreNotValid has states of which one list is spoilt, through whose other faces something would flow.
func TestStepsOfRichStatesThatAreNotValid(t *testing.T) {
	byText := shapesByText()
	for _, p := range richPlains() {
		s := p.state(t, byText)
		for spoilt := range spoiltStates(s) {
			wantNoSteps(t, spoilt)
		}
		for i, mass := range s.Mass {
			for _, c := range []blend{{1000*mass + 1, mass}, {-1, mass}, {0, -1}, {1, 0}, {1, 10000001 - impl.TotalMass(s) + mass}} {
				almost := copyOfState(s)
				almost.Mass[i], almost.Tracer[i] = c.mass, c.tracer
				wantNoSteps(t, almost)
			}
		}
	}
}

// TestStepsOfUnevenStates has meshes that are valid but not balanced: they have active faces, but nothing flows.
func TestStepsOfUnevenStates(t *testing.T) {
	byText := shapesByText()
	for _, text := range []string{"122|0", "0|221", "1332", "0|12344|0|0"} {
		p := filledPlain(text, 6)
		s := p.state(t, byText)
		if textUneven(text) < 0 || slices.Max(s.Mass) < 1000 {
			t.Fatalf("%v is no example", p)
		}
		wantNoSteps(t, s)
		wantActive(t, s.Mesh, 0, plainActive(text, 0))
	}
}

// TestStepsReturnNewMemory looks at the states after steps in which something, or nothing, is active, and after steps
// that are refused.
func TestStepsReturnNewMemory(t *testing.T) {
	byText := shapesByText()
	states := slices.Concat(baseStates(t), unevenStates(t), []impl.State{{}, {Mass: []int{1}, Tracer: []int{2}, Bed: []int{3}}})
	for _, p := range richPlains() {
		states = append(states, p.state(t, byText))
	}
	for _, s := range states {
		for _, tick := range []int{0, 1, 8, 15, -1, -16} {
			wantOwnMemory(t, "StepState", s, func(s impl.State) (impl.State, bool) { return impl.StepState(s, tick), true })
			wantSeparateLists(t, impl.StepState(withSpare(s), tick))
		}
		wantOwnMemory(t, "MacroStep", s, func(s impl.State) (impl.State, bool) { return impl.MacroStep(s), true })
		wantSeparateLists(t, impl.MacroStep(withSpare(s)))
	}
}

// TestFacesAndSumsChangeNothing calls both functions with spare capacity behind the lists, which must not count, and
// changes the faces that were returned before, which must not count either.
func TestFacesAndSumsChangeNothing(t *testing.T) {
	byText := shapesByText()
	states := append(baseStates(t), unevenStates(t)...)
	for _, p := range richPlains() {
		states = append(states, p.state(t, byText))
	}
	for _, s := range states {
		given := withSpare(s)
		before := copyOfState(withAll(given))
		for _, tick := range []int{0, 8, 1, -1} {
			got := impl.ActiveFaces(given.Mesh, tick)
			want := slices.Clone(got)
			for i := range got[:cap(got)] {
				got[:cap(got)][i] = -99
			}
			wantActive(t, given.Mesh, tick, want)
			wantActive(t, s.Mesh, tick, want)
		}
		for i := -1; i <= len(s.Mass); i++ {
			if got, want := impl.FluxSum(given, i), impl.FluxSum(s, i); got != want {
				t.Errorf("FluxSum of %v at %d is %d with spare capacity; want %d", s, i, got, want)
			}
		}
		if !sameAsState(withAll(given), before) {
			t.Errorf("the state %v has been changed: %v", before, withAll(given))
		}
		again := impl.ActiveFaces(given.Mesh, 0)
		want := slices.Clone(again)
		overwrite(given)
		if !slices.Equal(again, want) {
			t.Errorf("the faces %v change with the mesh: %v", want, again)
		}
	}
}

// TestStepsOfListsOfOneArray has a state whose lists lie in one array, one behind the other.
func TestStepsOfListsOfOneArray(t *testing.T) {
	m, _ := impl.ParseMesh("11")
	numbers := []int{500, 100, 1000, 50, 7}
	s := impl.State{Mesh: m, Mass: numbers[0:2], Tracer: numbers[2:4], Bed: numbers[4:5]}
	after, macro := impl.StepState(s, 8), impl.MacroStep(s)
	if !slices.Equal(after.Mass, []int{488, 112}) || !slices.Equal(after.Tracer, []int{976, 74}) || !slices.Equal(after.Bed, []int{7}) {
		t.Errorf("StepState gives %v", after)
	}
	if !slices.Equal(macro.Mass, []int{477, 123}) || !slices.Equal(macro.Tracer, []int{954, 96}) || !slices.Equal(macro.Bed, []int{7}) {
		t.Errorf("MacroStep gives %v", macro)
	}
	if sum := impl.FluxSum(s, 0); sum != 23 {
		t.Errorf("FluxSum gives %d", sum)
	}
	if !slices.Equal(numbers, []int{500, 100, 1000, 50, 7}) {
		t.Errorf("the array is %v", numbers)
	}
}
