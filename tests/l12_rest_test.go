package tests

import (
	"math"
	"slices"
	"strings"
	"testing"

	"loop.example/g00982/impl"
)

// A restFacts is what the functions of the chapter say of a valid state. The least width is the one up from which
// IsLevelWithin is true; with always it is true with each width.
type restFacts struct {
	still      bool
	always     bool
	least      int
	dry        []int
	start, end int
}

// plainHeights lists how far each leaf with a Mass of at least 4 lies above each of its neighbours.
func plainHeights(p plainState) []int {
	var heights []int
	sides := plainSides(p)
	for i := 1; i < len(sides); i++ {
		if left, right := sides[i-1], sides[i]; left.mass >= 4 {
			heights = append(heights, left.surface-right.surface)
		}
		if left, right := sides[i-1], sides[i]; right.mass >= 4 {
			heights = append(heights, right.surface-left.surface)
		}
	}
	return heights
}

// plainRest is the oracle of all functions. It adds up the widths of the leaves instead of looking at their cells.
func plainRest(p plainState) restFacts {
	facts := restFacts{still: true, always: true}
	for _, flux := range plainFluxes(p) {
		facts.still = facts.still && flux == 0
	}
	if heights := plainHeights(p); len(heights) > 0 {
		facts.always, facts.least = false, slices.Max(heights)
	}
	pos := 0
	var starts []int
	for i, side := range plainSides(p) {
		if side.mass == 0 {
			facts.dry = append(facts.dry, i)
		} else {
			starts = append(starts, pos)
			facts.end = pos + side.width
		}
		pos += side.width
	}
	if len(starts) > 0 {
		facts.start = starts[0]
	}
	return facts
}

// widthsAround returns widths of all kinds: extreme ones, those around 0, and those around a given one.
func widthsAround(width int) []int {
	return []int{math.MinInt, math.MinInt + 1, -1 << 32, -100, -4, -1, 0, 1, 15, 100, 1 << 32, math.MaxInt - 1, math.MaxInt, width - 1, width, width + 1, -width, -width - 1}
}

// wantRest checks what each function says of a valid state.
func wantRest(t *testing.T, s impl.State, want restFacts) {
	t.Helper()
	text := impl.FormatMesh(s.Mesh)
	if got := impl.IsAtRest(s); got != want.still {
		t.Fatalf("IsAtRest of %q, %v, is %v", text, s, got)
	}
	for _, width := range widthsAround(want.least) {
		if got := impl.IsLevelWithin(s, width); got != (want.always || width >= want.least) {
			t.Fatalf("IsLevelWithin of %q, %v, and %d is %v", text, s, width, got)
		}
	}
	if got := impl.DryLeaves(s); !slices.Equal(got, want.dry) {
		t.Fatalf("DryLeaves of %q, %v, are %v; want %v", text, s, got, want.dry)
	}
	if start, end := impl.WaterLine(s); start != want.start || end != want.end {
		t.Fatalf("WaterLine of %q, %v, is %d, %d; want %d, %d", text, s, start, end, want.start, want.end)
	}
}

// wantNoRest checks what each function says of a state that is not valid.
func wantNoRest(t *testing.T, s impl.State) {
	t.Helper()
	if impl.IsAtRest(s) {
		t.Fatalf("IsAtRest(%v) = true", s)
	}
	for _, width := range []int{math.MaxInt, 1 << 40, 0, -1, math.MinInt} {
		if impl.IsLevelWithin(s, width) {
			t.Fatalf("IsLevelWithin(%v, %d) = true", s, width)
		}
	}
	start, end := impl.WaterLine(s)
	if dry := impl.DryLeaves(s); len(dry) != 0 || start != 0 || end != 0 {
		t.Fatalf("DryLeaves and WaterLine of %v are %v and %d, %d", s, dry, start, end)
	}
}

// wantRestCases gives each case, and the same channel seen from the other side, to a check.
func wantRestCases[C any](t *testing.T, cases []C, plain func(c C) (string, plainState), check func(t *testing.T, c C, s impl.State)) {
	t.Helper()
	byText := shapesByText()
	for _, c := range cases {
		name, p := plain(c)
		t.Run(name, func(t *testing.T) {
			for _, p := range []plainState{p, mirroredPlain(p)} {
				s := p.state(t, byText)
				wantTotals(t, s)
				check(t, c, s)
			}
		})
	}
}

type stillCase struct {
	name      string
	text      string
	mass, bed []int
	want      bool
}

// wantStillCases also checks that nothing is moved by a tick or a macro step if the state is at rest, and only then by
// the first tick, in which each face is active.
func wantStillCases(t *testing.T, cases []stillCase) {
	t.Helper()
	plain := func(c stillCase) (string, plainState) { return c.name, cleanPlain(c.text, c.mass, c.bed) }
	wantRestCases(t, cases, plain, func(t *testing.T, c stillCase, s impl.State) {
		if got := impl.IsAtRest(s); got != c.want {
			t.Fatalf("IsAtRest of %q, %v, is %v", impl.FormatMesh(s.Mesh), s, got)
		}
		if moved := !sameAsState(impl.StepState(s, 0), s); moved == c.want {
			t.Fatalf("the first tick moves something in %v: %v", s, moved)
		}
		if c.want {
			wantStaysAtRest(t, s)
		}
	})
}

// wantStaysAtRest checks that a state is at rest, before and after ticks and a macro step that change nothing.
func wantStaysAtRest(t *testing.T, s impl.State) {
	t.Helper()
	if !impl.IsAtRest(s) {
		t.Fatalf("%q, %v, is not at rest: %v", impl.FormatMesh(s.Mesh), s, impl.AllFluxes(s))
	}
	for _, tick := range []int{0, 1, 2, 4, 8, 15, 16, math.MaxInt} {
		if after := impl.StepState(s, tick); !sameAsState(after, s) || !impl.IsAtRest(after) {
			t.Fatalf("the tick %d of %v, which is at rest, gives %v", tick, s, after)
		}
	}
	if after := impl.MacroStep(s); !sameAsState(after, s) || !impl.IsAtRest(after) {
		t.Fatalf("a macro step of %v, which is at rest, gives %v", s, after)
	}
	if middle := len(s.Mass)/2 - 1; impl.FluxSum(s, middle) != 0 {
		t.Fatalf("%d flows through the face %d of %v, which is at rest", impl.FluxSum(s, middle), middle, s)
	}
}

func TestStatesAtRest(t *testing.T) {
	numbers := func(n ...int) []int { return n }
	flat := numbers(0, 0, 0, 0)
	wantStillCases(t, []stillCase{
		{"one leaf", "0", numbers(500), numbers(9), true},
		{"one leaf without mass", "0", numbers(0), numbers(1000000), true},
		{"one leaf with the greatest mass", "0", numbers(10000000), numbers(0), true},
		{"two equal surfaces", "0|0", numbers(500, 500), flat[:2], true},
		{"two equal surfaces over different beds", "0|0", numbers(500, 400), numbers(0, 100), true},
		{"equal surfaces of different levels", "0|122", numbers(800, 400, 200, 200), flat[:2], true},
		{"equal surfaces of different levels over different beds", "0|122", numbers(1000, 400, 200, 200), numbers(7, 207), true},
		{"equal surfaces of all levels", "0|12344", numbers(1600, 800, 400, 200, 100, 100), flat[:2], true},
		{"equal surfaces of all levels, with a flux in the first face", "0|12344", numbers(1696, 800, 400, 200, 100, 100), flat[:2], false},
		{"equal surfaces of all levels, with a flux in a face in the middle", "0|12344", numbers(1600, 800, 400, 212, 106, 106), flat[:2], false},
		{"nearly equal surfaces of all levels", "0|12344", numbers(1600, 800, 400, 211, 105, 105), flat[:2], true},
		{"equal surfaces of all levels, with a flux in the last face", "0|12344", numbers(1600, 800, 400, 200, 100, 104), flat[:2], false},
		{"nearly equal surfaces of all levels at the last face", "0|12344", numbers(1600, 800, 400, 200, 100, 103), flat[:2], true},
		{"a flux in the first face alone, to the right", "0|0|0|0", numbers(564, 500, 500, 500), flat, false},
		{"a flux in the first face alone, to the left", "0|0|0|0", numbers(436, 500, 500, 500), flat, false},
		{"a flux in the second face alone, to the right", "0|0|0|0", numbers(564, 564, 500, 500), flat, false},
		{"a flux in the second face alone, to the left", "0|0|0|0", numbers(436, 436, 500, 500), flat, false},
		{"a flux in the last face alone, to the right", "0|0|0|0", numbers(564, 564, 564, 500), flat, false},
		{"a flux in the last face alone, to the left", "0|0|0|0", numbers(436, 436, 436, 500), flat, false},
		{"fluxes in both faces that have no sum", "0|0|0", numbers(564, 500, 564), flat[:3], false},
		{"fluxes in both faces that pass a leaf", "0|0|0", numbers(628, 564, 500), flat[:3], false},
		{"fluxes in all faces", "0|0|0|0", numbers(500, 0, 500, 0), flat, false},
		{"no mass anywhere, over different beds", "0|11|221", make([]int, 6), numbers(1000000, 0, 7), true},
	})
}

// TestSurfacesThatDifferAtRest has surfaces that differ although nothing flows, and the least difference with which
// something does.
func TestSurfacesThatDifferAtRest(t *testing.T) {
	numbers := func(n ...int) []int { return n }
	wantStillCases(t, []stillCase{
		{"a quotient of just less than 1", "0|0", numbers(563, 500), numbers(0, 0), true},
		{"a quotient of 1", "0|0", numbers(564, 500), numbers(0, 0), false},
		{"a quotient of just less than 1 by the beds", "0|0", numbers(500, 500), numbers(163, 100), true},
		{"a quotient of 1 by the beds", "0|0", numbers(500, 500), numbers(164, 100), false},
		{"a quotient of just less than 1, of two levels", "0|11", numbers(895, 400, 400), numbers(0, 0), true},
		{"a quotient of 1, of two levels", "0|11", numbers(896, 400, 400), numbers(0, 0), false},
		{"a quotient of just more than -1, of two levels", "0|11", numbers(705, 400, 400), numbers(0, 0), true},
		{"a quotient of -1, of two levels", "0|11", numbers(704, 400, 400), numbers(0, 0), false},
		{"a quotient of just less than 1, of the level 4", "3443322", numbers(40, 23, 20, 40, 40, 80, 80), numbers(0), true},
		{"a quotient of 1, of the level 4", "3443322", numbers(40, 24, 20, 40, 40, 80, 80), numbers(0), false},
		{"a slope of many leaves", "0|0|0|0|0", numbers(752, 689, 626, 563, 500), numbers(0, 0, 0, 0, 0), true},
		{"a quarter of 0", "0|0", numbers(0, 0), numbers(1000000, 0), true},
		{"a quarter of 1", "0|0", numbers(1, 0), numbers(1000000, 0), true},
		{"a quarter of 3", "0|0", numbers(3, 0), numbers(1000000, 0), true},
		{"a quarter of 4", "0|0", numbers(4, 0), numbers(1000000, 0), false},
		{"a quarter of 3 above a full leaf", "0|0", numbers(3, 500), numbers(1000000, 0), true},
		{"a quarter of 4 above a full leaf", "0|0", numbers(4, 500), numbers(1000000, 0), false},
		{"a quarter of 3 in a finer leaf", "0|11", numbers(0, 3, 3), numbers(0, 1000000), true},
		{"a quarter of 4 in a finer leaf", "0|11", numbers(0, 4, 4), numbers(0, 1000000), false},
		{"3 on both sides of 4", "0|0|0", numbers(3, 4, 3), numbers(1000, 0, 1000), true},
		{"4 between 3 and 3", "0|0|0", numbers(3, 4, 3), numbers(0, 1000, 0), false},
		{"3 in each leaf, over beds of a stair", "0|0|0|0", numbers(3, 3, 3, 3), numbers(4000, 3000, 2000, 1000), true},
		{"4 in the last leaf, the lowest one", "0|0|0|0", numbers(3, 3, 3, 4), numbers(4000, 3000, 2000, 1000), true},
		{"4 in the last leaf but one", "0|0|0|0", numbers(3, 3, 4, 3), numbers(4000, 3000, 2000, 1000), false},
		{"4 in the first leaf", "0|0|0|0", numbers(4, 3, 3, 3), numbers(4000, 3000, 2000, 1000), false},
	})
}

// TestBedsAboveTheSurface has leaves without mass at the ends of a lake and within it.
func TestBedsAboveTheSurface(t *testing.T) {
	numbers := func(n ...int) []int { return n }
	wantStillCases(t, []stillCase{
		{"at one end", "0|0|0", numbers(0, 500, 500), numbers(10000, 0, 0), true},
		{"at both ends", "0|0|0", numbers(0, 500, 0), numbers(10000, 0, 1000000), true},
		{"in the middle", "0|0|0", numbers(500, 0, 500), numbers(0, 10000, 0), true},
		{"in the middle, between two different surfaces", "0|0|0", numbers(500, 0, 7000), numbers(0, 10000, 0), true},
		{"in the middle, of finer leaves", "0|11|0", numbers(500, 0, 0, 500), numbers(0, 10000, 0), true},
		{"at both ends, of finer leaves", "11|0|122", numbers(0, 0, 500, 0, 0, 0), numbers(700, 0, 900), true},
		{"at one end, of a coarser leaf", "0|11", numbers(0, 500, 500), numbers(10000, 0), true},
		{"one unit above", "0|0", numbers(0, 500), numbers(501, 0), true},
		{"64 units above", "0|0", numbers(0, 500), numbers(564, 0), true},
		{"equal to the surface", "0|0", numbers(0, 500), numbers(500, 0), true},
		{"equal to the surface, in the middle", "0|0|11", numbers(500, 0, 250, 250), numbers(0, 500, 0), true},
		{"one unit below the surface", "0|0", numbers(0, 500), numbers(499, 0), true},
		{"63 units below the surface", "0|0", numbers(0, 500), numbers(437, 0), true},
		{"64 units below the surface", "0|0", numbers(0, 500), numbers(436, 0), false},
		{"so low in the middle that something flows in", "0|0|0", numbers(500, 0, 500), numbers(0, 436, 0), false},
		{"3 on the crest of two lakes", "0|0|0", numbers(500, 3, 7000), numbers(0, 10000, 0), true},
		{"4 on the crest of two lakes", "0|0|0", numbers(500, 4, 7000), numbers(0, 10000, 0), false},
		{"below the surface on one side", "0|0|0", numbers(500, 0, 7000), numbers(0, 1000, 0), false},
	})
}

type levelCase struct {
	name      string
	text      string
	mass, bed []int
	least     int
}

// wantLevelCases checks the widths around the least one of each case and extreme ones. The least width math.MinInt
// stands for all widths, since no two surfaces differ by so much.
func wantLevelCases(t *testing.T, cases []levelCase) {
	t.Helper()
	plain := func(c levelCase) (string, plainState) { return c.name, cleanPlain(c.text, c.mass, c.bed) }
	wantRestCases(t, cases, plain, func(t *testing.T, c levelCase, s impl.State) {
		for _, width := range append(widthsAround(c.least), extremeInts()...) {
			if got := impl.IsLevelWithin(s, width); got != (c.least == math.MinInt || width >= c.least) {
				t.Errorf("IsLevelWithin of %q, %v, and %d is %v", impl.FormatMesh(s.Mesh), s, width, got)
			}
		}
	})
}

func TestIsLevelWithin(t *testing.T) {
	numbers := func(n ...int) []int { return n }
	flat := numbers(0, 0, 0, 0)
	wantLevelCases(t, []levelCase{
		{"the given example", "122", numbers(400, 0, 7), numbers(0), 800},
		{"one leaf", "0", numbers(500), numbers(9), math.MinInt},
		{"one leaf without mass", "0", numbers(0), numbers(9), math.MinInt},
		{"two equal surfaces", "0|0", numbers(500, 500), flat[:2], 0},
		{"two equal surfaces over different beds", "0|0", numbers(500, 400), numbers(0, 100), 0},
		{"equal surfaces of different levels", "0|122", numbers(1000, 400, 200, 200), numbers(7, 207), 0},
		{"a difference of one unit", "0|0", numbers(501, 500), flat[:2], 1},
		{"a difference of one unit by the beds", "0|0", numbers(500, 500), numbers(9, 10), 1},
		{"a difference of one unit in the level 1", "11", numbers(501, 500), numbers(9), 2},
		{"a difference of one unit in the level 2", "2222", numbers(501, 500, 500, 501), numbers(9), 4},
		{"a difference of one unit in the level 3", "1233", numbers(2000, 1000, 501, 500), numbers(9), 8},
		{"a difference of one unit in the level 4", "12344", numbers(4000, 2000, 1000, 501, 500), numbers(9), 16},
		{"equal masses of all levels", "12344", numbers(100, 100, 100, 100, 100), numbers(5), 800},
		{"the greatest difference in the first face", "0|0|0|0", numbers(900, 500, 490, 480), flat, 400},
		{"the greatest difference in the second face", "0|0|0|0", numbers(900, 890, 500, 490), flat, 390},
		{"the greatest difference in the last face", "0|0|0|0", numbers(900, 890, 880, 500), flat, 380},
		{"the greatest difference in the first face, to the other side", "0|0|0|0", numbers(500, 900, 910, 920), flat, 400},
		{"the greatest difference in the second face, to the other side", "0|0|0|0", numbers(500, 510, 900, 910), flat, 390},
		{"the greatest difference in the last face, to the other side", "0|0|0|0", numbers(500, 510, 520, 900), flat, 380},
		{"two leaves that are far from each other, but no neighbours", "0|0|0|0", numbers(800, 700, 600, 500), flat, 100},
		{"a crest", "0|0|0", numbers(500, 700, 450), flat[:3], 250},
		{"a trough", "0|0|0", numbers(500, 300, 450), flat[:3], 200},
		{"the greatest numbers", "0|0", numbers(10000000, 0), numbers(1000000, 0), 11000000},
		{"the greatest numbers in the deepest level", "12344|44321", numbers(0, 0, 0, 0, 10000000, 0, 0, 0, 0, 0), numbers(1000000, 0), 161000000},
	})
}

// TestLevelsOfLeavesWithLittleMass has leaves with masses of less than 4, which may lie as high as they do.
func TestLevelsOfLeavesWithLittleMass(t *testing.T) {
	numbers := func(n ...int) []int { return n }
	always := math.MinInt
	wantLevelCases(t, []levelCase{
		{"0 above 0", "0|0", numbers(0, 0), numbers(100, 0), always},
		{"0 above 3", "0|0", numbers(0, 3), numbers(103, 0), always},
		{"0 above 4", "0|0", numbers(0, 4), numbers(104, 0), -100},
		{"0 above 500", "0|0", numbers(0, 500), numbers(600, 0), -100},
		{"1 above 0", "0|0", numbers(1, 0), numbers(99, 0), always},
		{"3 above 0", "0|0", numbers(3, 0), numbers(97, 0), always},
		{"3 above 3", "0|0", numbers(3, 3), numbers(100, 0), always},
		{"3 above 4", "0|0", numbers(3, 4), numbers(101, 0), -100},
		{"4 above 0", "0|0", numbers(4, 0), numbers(96, 0), 100},
		{"4 above 3", "0|0", numbers(4, 3), numbers(99, 0), 100},
		{"4 above 4", "0|0", numbers(4, 4), numbers(100, 0), 100},
		{"500 above 0", "0|0", numbers(500, 0), numbers(0, 400), 100},
		{"0 beside 0", "0|0", numbers(0, 0), numbers(7, 7), always},
		{"3 beside 4, at the same height", "0|0", numbers(3, 4), numbers(8, 7), 0},
		{"3 above 0 in the level 4", "12344", numbers(0, 0, 0, 3, 0), numbers(9), always},
		{"4 above 0 in the level 4", "12344", numbers(0, 0, 0, 4, 0), numbers(9), 64},
		{"3 above 4 of a coarser leaf", "0|11", numbers(4, 3, 0), numbers(100, 100), -2},
		{"4 above 3 of a coarser leaf", "0|11", numbers(3, 4, 0), numbers(100, 100), 8},
		{"4 below a bed of MaxBed", "0|0", numbers(0, 4), numbers(1000000, 0), -999996},
		{"between two leaves of less mass, above both", "0|0|0", numbers(3, 500, 2), numbers(5000, 0, 800), -302},
		{"beside a leaf of less mass, above it, and one below it", "0|0|0", numbers(3, 500, 480), numbers(5000, 0, 0), 20},
		{"less than 4 in each leaf", "0|11|221", numbers(3, 2, 1, 0, 3, 3), numbers(1000000, 0, 7), always},
		{"less than 4 in each leaf but the lowest one", "0|0|0|0", numbers(3, 3, 3, 4), numbers(4000, 3000, 2000, 1000), -999},
		{"less than 4 in each leaf but the highest one", "0|0|0|0", numbers(4, 3, 3, 3), numbers(4000, 3000, 2000, 1000), 1001},
		{"no mass anywhere", "0|11|221", make([]int, 6), numbers(1000000, 0, 7), always},
	})
}

// TestDryLeavesAndWaterLine has positive masses in leaves of different places and levels. A mass of 1 is as wet as any.
func TestDryLeavesAndWaterLine(t *testing.T) {
	byText := shapesByText()
	numbers := func(n ...int) []int { return n }
	beds := numbers(7, 0, 1000000, 3, 40, 5, 600, 1)
	for _, c := range []struct {
		name       string
		text       string
		mass, dry  []int
		start, end int
	}{
		{"the given example", "122", numbers(400, 0, 7), numbers(1), 0, 16},
		{"one leaf", "0", numbers(1), numbers(), 0, 16},
		{"one leaf without mass", "0", numbers(0), numbers(0), 0, 0},
		{"the first leaf alone", "0|0|0|0", numbers(1, 0, 0, 0), numbers(1, 2, 3), 0, 16},
		{"the second leaf alone", "0|0|0|0", numbers(0, 4, 0, 0), numbers(0, 2, 3), 16, 32},
		{"the third leaf alone", "0|0|0|0", numbers(0, 0, 3, 0), numbers(0, 1, 3), 32, 48},
		{"the last leaf alone", "0|0|0|0", numbers(0, 0, 0, 1), numbers(0, 1, 2), 48, 64},
		{"the first and the last leaf", "0|0|0|0", numbers(1, 0, 0, 1), numbers(1, 2), 0, 64},
		{"the leaves in the middle", "0|0|0|0", numbers(0, 9, 1, 0), numbers(0, 3), 16, 48},
		{"the second and the last leaf", "0|0|0|0", numbers(0, 9, 0, 2), numbers(0, 2), 16, 64},
		{"all leaves", "0|0|0|0", numbers(1, 2, 3, 4), numbers(), 0, 64},
		{"no leaf", "0|0|0|0", numbers(0, 0, 0, 0), numbers(0, 1, 2, 3), 0, 0},
		{"no leaf of eight roots", "0|0|0|0|0|0|0|0", make([]int, 8), numbers(0, 1, 2, 3, 4, 5, 6, 7), 0, 0},
		{"the last of eight roots", "0|0|0|0|0|0|0|0", numbers(0, 0, 0, 0, 0, 0, 0, 10000000), numbers(0, 1, 2, 3, 4, 5, 6), 112, 128},
		{"the left half of a root", "11|0", numbers(5, 0, 0), numbers(1, 2), 0, 8},
		{"the right half of a root", "11|0", numbers(0, 5, 0), numbers(0, 2), 8, 16},
		{"a quarter of a root", "0|11|221", numbers(0, 0, 0, 0, 5, 0), numbers(0, 1, 2, 3, 5), 36, 40},
		{"from a half to a quarter", "0|11|221", numbers(0, 0, 5, 0, 1, 0), numbers(0, 1, 3, 5), 24, 40},
		{"from a root to a half", "0|11|221", numbers(5, 0, 0, 0, 0, 1), numbers(1, 2, 3, 4), 0, 48},
		{"an eighth of a root", "1233|221", numbers(0, 0, 1, 0, 0, 0, 0), numbers(0, 1, 3, 4, 5, 6), 12, 14},
		{"a sixteenth of a root", "12344|44321", numbers(0, 0, 0, 1, 0, 0, 0, 0, 0, 0), numbers(0, 1, 2, 4, 5, 6, 7, 8, 9), 14, 15},
		{"on both sides of a border", "12344|44321", numbers(0, 0, 0, 0, 1, 1, 0, 0, 0, 0), numbers(0, 1, 2, 3, 6, 7, 8, 9), 15, 17},
	} {
		t.Run(c.name, func(t *testing.T) {
			m := meshWithText(t, c.text, byText)
			for _, share := range []int{0, 3, 1000} {
				s := impl.State{Mesh: m, Mass: c.mass, Bed: beds[:m.Roots]}
				for _, mass := range c.mass {
					s.Tracer = append(s.Tracer, share*mass)
				}
				wantTotals(t, s)
				if got := impl.DryLeaves(s); !slices.Equal(got, c.dry) {
					t.Errorf("DryLeaves of %v are %v; want %v", s, got, c.dry)
				}
				if start, end := impl.WaterLine(s); start != c.start || end != c.end {
					t.Errorf("WaterLine of %v is %d, %d; want %d, %d", s, start, end, c.start, c.end)
				}
			}
		})
	}
}

// TestWaterBetweenTwoLeaves has one wet leaf, and two of them, of each pair of places.
func TestWaterBetweenTwoLeaves(t *testing.T) {
	m, _ := impl.ParseMesh("12344|44321|0|11")
	ends := []int{0, 8, 12, 14, 15, 16, 17, 18, 20, 24, 32, 48, 56, 64}
	for first := range m.Leaves {
		for last := first; last < len(m.Leaves); last++ {
			s := impl.State{Mesh: m, Mass: make([]int, 13), Tracer: make([]int, 13), Bed: []int{0, 9, 9, 0}}
			s.Mass[first], s.Mass[last] = 1, 1
			want := []int{}
			for i := range m.Leaves {
				if i != first && i != last {
					want = append(want, i)
				}
			}
			if got := impl.DryLeaves(s); !slices.Equal(got, want) {
				t.Errorf("DryLeaves of %v are %v", s, got)
			}
			if start, end := impl.WaterLine(s); start != ends[first] || end != ends[last+1] {
				t.Errorf("WaterLine of %v is %d, %d", s, start, end)
			}
		}
	}
}

// TestRestOfKnownStates compares each function with its oracle, on states of all shapes.
func TestRestOfKnownStates(t *testing.T) {
	byText := shapesByText()
	still, moving := 0, 0
	for _, p := range slices.Concat(fluxPlains(), lakePlains(), puddlePlains()) {
		facts := plainRest(p)
		wantRest(t, p.state(t, byText), facts)
		if facts.still {
			still++
		} else {
			moving++
		}
	}
	if min(still, moving) < 1000 {
		t.Errorf("only %d states are at rest, and %d are not", still, moving)
	}
	for _, s := range baseStates(t) {
		p := plainState{impl.FormatMesh(s.Mesh), s.Mass, s.Tracer, s.Bed}
		wantRest(t, s, plainRest(p))
	}
}

// lakePlain returns the lake of a text that is filled up to a surface.
func lakePlain(text string, bed []int, surface int) plainState {
	empty := cleanPlain(text, make([]int, len(leafDigits(text))), bed)
	for i, side := range plainSides(empty) {
		// The surface of an empty leaf is its bed.
		if side.surface < surface {
			empty.mass[i] = (surface - side.surface) * side.width / 16
		}
	}
	return empty
}

// lakeBeds returns beds of all kinds for a number of roots: flat ones, ones with steps, and ones that lie above a
// surface at one end, at both ends, in the middle, everywhere but there, and everywhere, or that are equal to it.
func lakeBeds(roots int, surface int) [][]int {
	last, middle := roots-1, roots/2
	patterns := []func(root int) int{
		func(root int) int { return 0 },
		func(root int) int { return min(root, last-root) * surface / 9 },
		func(root int) int { return (root * 7919) % (surface + 1) },
		func(root int) int { return (surface/last + 1) * root },
		func(root int) int { return (surface / 3) + (root/last)*surface },
		func(root int) int { return (surface/last + 1) * max(root-middle, middle-root) * 2 },
		func(root int) int { return surface + 5 - max(root-middle, middle-root)*surface/last },
		func(root int) int { return surface + 1 - (root+1)%2 },
		func(root int) int { return max(0, surface-root%3) },
		func(root int) int { return surface + 70*root },
	}
	var beds [][]int
	for _, pattern := range patterns {
		var bed []int
		for root := range roots {
			bed = append(bed, pattern(root))
		}
		beds = append(beds, bed)
	}
	return beds
}

// lakeTexts returns channels of each depth, of two roots or more.
func lakeTexts() []string {
	return []string{
		"0|0", "0|0|0|0|0", "0|0|0|0|0|0|0|0",
		"0|11", "11|11", "0|11|0|11|11", "11|0|0|0|0|11|0|11",
		"11|122", "2222|221", "0|11|221|11|0", "122|2222|11|0|0|11|221|2222",
		"1233|2222", "33333333|3321", "0|1233|3321|0|11", "0|11|1233|33222|22332|221|0|1233",
		"12344|44321", "4444444444444444|4433322", "0|12344|44321|0|11", "0|11|1233|3443322|1233|44321|0|12344",
	}
}

// lakePlains returns lakes on meshes of every depth, over beds of all kinds, and the same ones seen from the other side.
func lakePlains() []plainState {
	surfaces := []int{0, 1, 15, 16, 100, 6401, 65536, 400000}
	var lakes []plainState
	for n, text := range lakeTexts() {
		for k, surface := range surfaces {
			for _, bed := range lakeBeds(strings.Count(text, "|")+1, surface+7*n) {
				lake := lakePlain(text, bed, surface+7*n)
				if (n+k)%2 == 1 {
					lake = mirroredPlain(lake)
				}
				lakes = append(lakes, lake)
			}
		}
	}
	for n, p := range balancedPlains() {
		surface := surfaces[n%len(surfaces)] + n
		if roots := len(p.bed); roots > 1 {
			bed := lakeBeds(roots, surface)[n%10]
			lakes = append(lakes, lakePlain(p.text, bed, surface))
			continue
		}
		for _, bed := range []int{surface / 2, max(0, surface-1), surface, []int{0, 1, surface + 1, 1000000}[n%4]} {
			lakes = append(lakes, lakePlain(p.text, []int{bed}, surface))
		}
	}
	return lakes
}

// puddlePlains returns states with masses of 0 to 4, of which some are at rest although their surfaces are not level.
func puddlePlains() []plainState {
	var puddles []plainState
	for n, p := range balancedPlains() {
		for most := 3; most <= 4; most++ {
			puddle := plainState{text: p.text, bed: p.bed}
			for i := range p.mass {
				mass := (i*i + n) % (most + 1)
				puddle.mass = append(puddle.mass, mass)
				puddle.tracer = append(puddle.tracer, mass*(n%1001))
			}
			puddles = append(puddles, puddle)
		}
	}
	return puddles
}

// TestALakeAtRestStaysAtRest states the promise itself, for lakes as FillState fills them. The surfaces of such a lake
// differ by less than one unit of mass in the deepest leaf.
func TestALakeAtRestStaysAtRest(t *testing.T) {
	byText := shapesByText()
	wet, dry, some, ofDepth := 0, 0, 0, [5]int{}
	for n, p := range lakePlains() {
		s := p.state(t, byText)
		wantStaysAtRest(t, s)
		if n%3 == 0 {
			wantStaysAtRest(t, brewedPlain(p).state(t, byText))
		}
		depth := impl.DeepestLevel(s.Mesh)
		if !impl.IsLevelWithin(s, 1<<depth-1) {
			t.Fatalf("the lake %v is not level", s)
		}
		switch leaves := len(impl.DryLeaves(s)); leaves {
		case 0:
			wet++
		case len(s.Mass):
			dry++
		default:
			some++
		}
		ofDepth[depth]++
	}
	if min(wet, dry, some) < 100 || min(ofDepth[0], ofDepth[1], ofDepth[2], ofDepth[3], ofDepth[4]) < 100 {
		t.Errorf("there are only %d lakes without dry leaves, %d without others and %d with both; of each depth: %v", wet, dry, some, ofDepth)
	}
}

// TestFilledStatesAreLakes compares FillState with the lakes of the test above.
func TestFilledStatesAreLakes(t *testing.T) {
	byText := shapesByText()
	for n, p := range balancedPlains() {
		m := meshWithText(t, p.text, byText)
		surface := []int{0, 1, 15, 16, 1000, 4801, 65536, 1000000}[n%8] + n
		for _, bed := range lakeBeds(max(2, m.Roots), surface) {
			bed = bed[:m.Roots]
			s, ok := impl.FillState(m, bed, surface)
			if slices.Max(bed) > 1000000 {
				continue
			}
			if !ok || !sameAsState(s, lakePlain(p.text, bed, surface).state(t, byText)) {
				t.Fatalf("FillState(%q, %v, %d) = %v, %v", p.text, bed, surface, s, ok)
			}
			if !impl.IsAtRest(s) {
				t.Fatalf("%v, filled up to %d, is not at rest", s, surface)
			}
		}
	}
}

// TestALakeStaysAtRestOnEveryMesh refines a lake leaf by leaf up to the deepest level, and coarsens it again. Nothing
// flows in between, because half a unit of mass does not move a surface far enough.
func TestALakeStaysAtRestOnEveryMesh(t *testing.T) {
	m, _ := impl.MeshNew(5, 0)
	for n := range 15 {
		for _, surface := range []int{[]int{0, 1, 31}[n%3], []int{97, 1023, 77777}[n%3]} {
			bed := lakeBeds(5, surface)[n%10]
			s, ok := impl.FillState(m, bed, surface)
			for step := 0; ok; step++ {
				wantStaysAtRest(t, s)
				s, ok = refinedSomewhere(s, step*step+n)
			}
			if len(s.Mass) < 70 {
				t.Fatalf("%v can not be refined", s)
			}
			for ok = true; ok; {
				wantStaysAtRest(t, s)
				s, ok = coarsenedSomewhere(s, n)
			}
			if len(s.Mass) != 5 {
				t.Fatalf("%v can not be coarsened", s)
			}
		}
	}
}

// refinedSomewhere refines one of the coarsest leaves of a state, which one depends on a number.
func refinedSomewhere(s impl.State, n int) (impl.State, bool) {
	for level := range 4 {
		for i := range s.Mass {
			at := (i + n) % len(s.Mass)
			if s.Mesh.Leaves[at].Level > level {
				continue
			}
			if finer, ok := impl.BalanceRefine(s, at); ok {
				return finer, true
			}
		}
	}
	return s, false
}

func coarsenedSomewhere(s impl.State, n int) (impl.State, bool) {
	for i := range s.Mass {
		if coarser, ok := impl.CoarsenState(s, (i+n)%len(s.Mass)); ok {
			return coarser, true
		}
	}
	return s, false
}

// TestOnlyStatesAtRestAreNotChanged compares IsAtRest with the first tick, in which all faces are active: the leaf on
// the left of the first flux gains or loses something.
func TestOnlyStatesAtRestAreNotChanged(t *testing.T) {
	byText := shapesByText()
	still, moving := 0, 0
	for _, p := range slices.Concat(fluxPlains(), puddlePlains()) {
		s := p.state(t, byText)
		if sameAsState(impl.StepState(s, 0), s) {
			still++
			wantStaysAtRest(t, s)
		} else if moving++; impl.IsAtRest(s) {
			t.Fatalf("%v is at rest, but something flows", s)
		}
	}
	if min(still, moving) < 100 {
		t.Errorf("only %d states are at rest, and %d are not", still, moving)
	}
}

// TestOneFluxDisturbsALake raises the water on one side of a face, until something flows through it alone.
func TestOneFluxDisturbsALake(t *testing.T) {
	byText := shapesByText()
	p := lakePlain("44321|0|11|221", []int{0, 100, 900, 40}, 3200)
	if !plainRest(p).still || slices.Contains(p.mass, 0) {
		t.Fatalf("%v is no example", p)
	}
	for face := range len(p.mass) - 1 {
		for _, mirrored := range []bool{false, true} {
			raised := lakePlain(p.text, p.bed, 3200)
			higher := lakePlain(p.text, p.bed, 3200+200)
			copy(raised.mass[:face+1], higher.mass[:face+1])
			if mirrored {
				raised = mirroredPlain(raised)
			}
			fluxes := slices.DeleteFunc(plainFluxes(raised), func(flux int) bool { return flux == 0 })
			if len(fluxes) != 1 {
				t.Fatalf("the fluxes of %v are %v", raised, plainFluxes(raised))
			}
			wantRest(t, raised.state(t, byText), plainRest(raised))
			if impl.IsAtRest(raised.state(t, byText)) {
				t.Errorf("%v is at rest", raised)
			}
		}
	}
}

// TestRestFromTheOtherSide compares a channel with the same channel seen from the other side.
func TestRestFromTheOtherSide(t *testing.T) {
	byText := shapesByText()
	for _, p := range slices.Concat(balancedPlains(), puddlePlains()) {
		facts := plainRest(p)
		other := restFacts{still: facts.still, always: facts.always, least: facts.least}
		for _, i := range facts.dry {
			other.dry = append(other.dry, len(p.mass)-1-i)
		}
		slices.Reverse(other.dry)
		if facts.end > 0 {
			other.start, other.end = 16*len(p.bed)-facts.end, 16*len(p.bed)-facts.start
		}
		wantRest(t, mirroredPlain(p).state(t, byText), other)
	}
}

// TestRestDoesNotDependOnTheTracer compares states that differ in their tracers.
func TestRestDoesNotDependOnTheTracer(t *testing.T) {
	byText := shapesByText()
	for _, p := range fluxPlains() {
		facts := plainRest(p)
		wantRest(t, cleanPlain(p.text, p.mass, p.bed).state(t, byText), facts)
		wantRest(t, brewedPlain(p).state(t, byText), facts)
	}
}

// stillStates returns states of which each function says something: lakes with dry leaves, and puddles.
func stillStates(t *testing.T) []impl.State {
	t.Helper()
	byText := shapesByText()
	var states []impl.State
	for _, p := range []plainState{
		lakePlain("122|11", []int{10, 200}, 109),
		lakePlain("0|12344|44321|0", []int{1000000, 0, 2000, 7}, 1600),
		lakePlain("11|0|122", []int{7, 10000, 90}, 5000),
		cleanPlain("0|0", []int{0, 0}, []int{3, 4}),
		cleanPlain("0|0|0", []int{3, 0, 2}, []int{1000, 0, 50000}),
	} {
		s := brewedPlain(p).state(t, byText)
		if !impl.IsAtRest(s) || len(impl.DryLeaves(s)) == 0 {
			t.Fatalf("%v is no example", p)
		}
		states = append(states, s)
	}
	return states
}

func TestRestOfInvalidStates(t *testing.T) {
	for s := range invalidStates(t) {
		wantNoRest(t, s)
	}
	for _, s := range almostValidStates(t) {
		wantNoRest(t, s)
	}
}

// TestLakesThatAreNotValid has states of which one list is spoilt, which would be at rest otherwise.
func TestLakesThatAreNotValid(t *testing.T) {
	for _, s := range stillStates(t) {
		for spoilt := range spoiltStates(s) {
			wantNoRest(t, spoilt)
		}
		for i, mass := range s.Mass {
			for _, c := range []blend{{1000*mass + 1, mass}, {-1, mass}, {0, -1}, {1, 0}, {1, 10000001 - impl.TotalMass(s) + mass}} {
				almost := copyOfState(s)
				almost.Mass[i], almost.Tracer[i] = c.mass, c.tracer
				wantNoRest(t, almost)
			}
		}
		for root := range s.Bed {
			for _, bed := range []int{-1, 1000001} {
				almost := copyOfState(s)
				almost.Bed[root] = bed
				wantNoRest(t, almost)
			}
		}
	}
}

// TestLakesThatAreNotBalanced has meshes that are valid but not balanced.
func TestLakesThatAreNotBalanced(t *testing.T) {
	byText := shapesByText()
	for _, text := range []string{"122|0", "0|221", "1332", "0|12344|0|0", "11|4444444444444444"} {
		for _, surface := range []int{0, 16, 1600} {
			p := lakePlain(text, make([]int, len(text)-len(leafDigits(text))+1), surface)
			if textUneven(text) < 0 || !plainRest(p).still {
				t.Fatalf("%v is no example", p)
			}
			wantNoRest(t, p.state(t, byText))
		}
	}
	for _, s := range unevenStates(t) {
		wantNoRest(t, s)
	}
}

// TestRestChangesNothing calls each function with spare capacity behind the lists, which must not count, and changes
// the leaves that were returned before, which must not count either.
func TestRestChangesNothing(t *testing.T) {
	byText := shapesByText()
	states := slices.Concat(baseStates(t), unevenStates(t), stillStates(t))
	for _, p := range richPlains() {
		states = append(states, p.state(t, byText))
	}
	for _, s := range states {
		given := withSpare(s)
		before := copyOfState(withAll(given))
		dry := impl.DryLeaves(given)
		want := slices.Clone(dry)
		for i := range dry[:cap(dry)] {
			dry[:cap(dry)][i] = -99
		}
		again := impl.DryLeaves(given)
		start, end := impl.WaterLine(given)
		if firstStart, firstEnd := impl.WaterLine(s); start != firstStart || end != firstEnd || impl.IsAtRest(given) != impl.IsAtRest(s) {
			t.Errorf("the spare capacity behind %v counts: the water lies from %d to %d", s, start, end)
		}
		for _, width := range []int{-1, 0, 1, 15, 100, 1 << 40} {
			if impl.IsLevelWithin(given, width) != impl.IsLevelWithin(s, width) {
				t.Errorf("the spare capacity behind %v counts with the width %d", s, width)
			}
		}
		if !sameAsState(withAll(given), before) {
			t.Errorf("the state %v has been changed: %v", before, withAll(given))
		}
		overwrite(given)
		if !slices.Equal(again, want) || !slices.Equal(impl.DryLeaves(s), want) {
			t.Errorf("the dry leaves of %v are %v, then %v", s, want, again)
		}
	}
}

// TestRestOfListsOfOneArray has a state whose lists lie in one array, one behind the other.
func TestRestOfListsOfOneArray(t *testing.T) {
	m, _ := impl.ParseMesh("11")
	numbers := []int{0, 30, 0, 50, 7}
	s := impl.State{Mesh: m, Mass: numbers[0:2], Tracer: numbers[2:4], Bed: numbers[4:5]}
	wantRest(t, s, restFacts{still: true, least: 60, dry: []int{0}, start: 8, end: 16})
	if !slices.Equal(numbers, []int{0, 30, 0, 50, 7}) {
		t.Errorf("the array is %v", numbers)
	}
}
