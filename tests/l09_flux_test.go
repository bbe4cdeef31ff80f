package tests

import (
	"math"
	"slices"
	"strings"
	"testing"

	"loop.example/g00982/impl"
)

// A plainSide is what the oracles below know of a leaf, found in the text of a mesh.
type plainSide struct{ width, mass, surface int }

func plainSides(p plainState) []plainSide {
	var sides []plainSide
	for i, place := range leafDigits(p.text) {
		side := plainSide{width: 16, mass: p.mass[i], surface: p.mass[i]}
		for range p.text[place] - '0' {
			side.width /= 2
			side.surface *= 2
		}
		side.surface += p.bed[strings.Count(p.text[:place], "|")]
		sides = append(sides, side)
	}
	return sides
}

// plainFlux is the oracle of a flux: it divides amounts without a sign, and knows the side that loses something.
func plainFlux(left plainSide, right plainSide) int {
	if left.surface < right.surface {
		return -plainFlux(right, left)
	}
	flux := (left.surface - right.surface) * min(left.width, right.width) / (32 * (left.width + right.width))
	return min(flux, (left.mass-left.mass%4)/4)
}

func plainFluxes(p plainState) []int {
	fluxes := []int{}
	sides := plainSides(p)
	for i := 1; i < len(sides); i++ {
		fluxes = append(fluxes, plainFlux(sides[i-1], sides[i]))
	}
	return fluxes
}

// plainSteepest is the oracle of SteepestFace: no face before it is as steep, and no face behind it is steeper.
func plainSteepest(p plainState) int {
	sides := plainSides(p)
	steepness := []int{}
	for i := 1; i < len(sides); i++ {
		high, low := max(sides[i-1].surface, sides[i].surface), min(sides[i-1].surface, sides[i].surface)
		steepness = append(steepness, high-low)
	}
	if len(steepness) == 0 {
		return -1
	}
	return slices.Index(steepness, slices.Max(steepness))
}

// valueAt returns an element of a list, or 0 for an index of none.
func valueAt(list []int, i int) int {
	if i < 0 || i >= len(list) {
		return 0
	}
	return list[i]
}

// wantFluxes checks what each function says of a valid state, at the indices of its leaves and around them.
func wantFluxes(t *testing.T, s impl.State, surfaces []int, fluxes []int, steepest int) {
	t.Helper()
	text := impl.FormatMesh(s.Mesh)
	for _, i := range indicesAround(len(s.Mass)) {
		if got, want := impl.SurfaceOf(s, i), valueAt(surfaces, i); got != want {
			t.Fatalf("SurfaceOf %q, %v, at %d is %d; want %d", text, s, i, got, want)
		}
		if got, want := impl.FaceFlux(s, i), valueAt(fluxes, i); got != want {
			t.Fatalf("FaceFlux of %q, %v, at %d is %d; want %d", text, s, i, got, want)
		}
	}
	if got := impl.AllFluxes(s); !slices.Equal(got, fluxes) {
		t.Fatalf("AllFluxes of %q, %v, are %v; want %v", text, s, got, fluxes)
	}
	if got := impl.SteepestFace(s); got != steepest {
		t.Fatalf("SteepestFace of %q, %v, is %d; want %d", text, s, got, steepest)
	}
}

// indicesAround returns the indices of a list with this number of elements, those around them, and extreme ones.
func indicesAround(count int) []int {
	indices := []int{math.MinInt, math.MinInt + 1, -1 << 32, -100, -2, -1}
	for i := range count + 3 {
		indices = append(indices, i)
	}
	return append(indices, count+100, 1<<32, 1<<62, math.MaxInt-1, math.MaxInt)
}

// wantPlainFluxes compares each function with its oracle.
func wantPlainFluxes(t *testing.T, p plainState, byText map[string]rootShape) {
	t.Helper()
	surfaces := []int{}
	for _, side := range plainSides(p) {
		surfaces = append(surfaces, side.surface)
	}
	wantFluxes(t, p.state(t, byText), surfaces, plainFluxes(p), plainSteepest(p))
}

// wantNoFluxes checks what each function says of a state that is not valid.
func wantNoFluxes(t *testing.T, s impl.State) {
	t.Helper()
	for _, i := range []int{-1, 0, 1, 2, 3, len(s.Mesh.Leaves) - 2, len(s.Mesh.Leaves) - 1, len(s.Mesh.Leaves), len(s.Mass) - 1, len(s.Mass), math.MinInt, math.MaxInt} {
		if surface, flux := impl.SurfaceOf(s, i), impl.FaceFlux(s, i); surface != 0 || flux != 0 {
			t.Fatalf("SurfaceOf and FaceFlux of %v at %d are %d and %d; want 0", s, i, surface, flux)
		}
	}
	if got := impl.AllFluxes(s); len(got) != 0 {
		t.Fatalf("AllFluxes(%v) = %v; want none", s, got)
	}
	if got := impl.SteepestFace(s); got != -1 {
		t.Fatalf("SteepestFace(%v) = %d; want -1", s, got)
	}
}

// cleanPlain returns a state without tracer.
func cleanPlain(text string, mass []int, bed []int) plainState {
	return plainState{text: text, mass: mass, tracer: make([]int, len(mass)), bed: bed}
}

func TestSurfaceOf(t *testing.T) {
	byText := shapesByText()
	cases := []struct {
		name      string
		text      string
		mass, bed []int
		want      []int
	}{
		{"a leaf of the level 0", "0", []int{7}, []int{100}, []int{107}},
		{"a leaf of the level 0 with no mass", "0", []int{0}, []int{100}, []int{100}},
		{"a leaf with no mass and a bed of 0", "0", []int{0}, []int{0}, []int{0}},
		{"leaves of the level 1", "11", []int{7, 0}, []int{100}, []int{114, 100}},
		{"leaves of the level 2", "2222", []int{7, 0, 1, 2}, []int{100}, []int{128, 100, 104, 108}},
		{"leaves of the level 3", "33333333", []int{7, 0, 1, 2, 3, 4, 5, 0}, []int{9}, []int{65, 9, 17, 25, 33, 41, 49, 9}},
		{"leaves of the level 4", "4444444444444444", []int{7, 0, 1, 2, 3, 4, 5, 6, 0, 0, 0, 0, 0, 0, 1, 0}, []int{8}, []int{120, 8, 24, 40, 56, 72, 88, 104, 8, 8, 8, 8, 8, 8, 24, 8}},
		{"leaves of all levels", "0|12344", []int{1, 1, 1, 1, 1, 0}, []int{0, 0}, []int{1, 2, 4, 8, 16, 0}},
		{"leaves of all levels, from the deepest one", "44321|0", []int{0, 3, 3, 3, 3, 3}, []int{5, 7}, []int{5, 53, 29, 17, 11, 10}},
		{"roots of different beds", "0|11|0", []int{4, 5, 6, 7}, []int{30, 20, 10}, []int{34, 30, 32, 17}},
		{"the last root of eight", "0|0|0|0|0|0|0|0", make([]int, 8), []int{1, 2, 3, 4, 5, 6, 7, 8}, []int{1, 2, 3, 4, 5, 6, 7, 8}},
		{"the greatest mass and bed", "0", []int{10000000}, []int{1000000}, []int{11000000}},
		{"the greatest mass in the deepest level", "12344", []int{0, 0, 0, 0, 10000000}, []int{1000000}, []int{1000000, 1000000, 1000000, 1000000, 161000000}},
	}
	for _, c := range cases {
		s := cleanPlain(c.text, c.mass, c.bed).state(t, byText)
		wantTotals(t, s)
		for _, i := range indicesAround(len(c.mass)) {
			if got, want := impl.SurfaceOf(s, i), valueAt(c.want, i); got != want {
				t.Errorf("%s: SurfaceOf %q, %v, at %d is %d; want %d", c.name, c.text, s, i, got, want)
			}
		}
	}
}

type fluxCase struct {
	name      string
	text      string
	mass, bed []int
	want      []int
}

// wantFluxCases checks the fluxes of each case, and those of the channel that is seen from the other side.
func wantFluxCases(t *testing.T, cases []fluxCase) {
	t.Helper()
	byText := shapesByText()
	for _, c := range cases {
		p := cleanPlain(c.text, c.mass, c.bed)
		s := p.state(t, byText)
		wantTotals(t, s)
		for _, i := range indicesAround(len(c.mass)) {
			if got, want := impl.FaceFlux(s, i), valueAt(c.want, i); got != want {
				t.Errorf("%s: FaceFlux of %q, %v, at %d is %d; want %d", c.name, c.text, s, i, got, want)
			}
		}
		if got := impl.AllFluxes(s); !slices.Equal(got, c.want) {
			t.Errorf("%s: AllFluxes of %q, %v, are %v; want %v", c.name, c.text, s, got, c.want)
		}
		mirrored := mirroredPlain(p).state(t, byText)
		if got, want := impl.AllFluxes(mirrored), negatedFromTheEnd(c.want); !slices.Equal(got, want) {
			t.Errorf("%s, from the other side: AllFluxes of %v are %v; want %v", c.name, mirrored, got, want)
		}
	}
}

func mirroredPlain(p plainState) plainState {
	text := []byte(p.text)
	slices.Reverse(text)
	return plainState{string(text), fromTheEnd(p.mass), fromTheEnd(p.tracer), fromTheEnd(p.bed)}
}

func fromTheEnd(list []int) []int {
	reversed := slices.Clone(list)
	slices.Reverse(reversed)
	return reversed
}

func negatedFromTheEnd(list []int) []int {
	negated := fromTheEnd(list)
	for i := range negated {
		negated[i] = -negated[i]
	}
	return negated
}

// TestFluxesOfOneLevel has differences that are divided by 64.
func TestFluxesOfOneLevel(t *testing.T) {
	flat := []int{0, 0}
	wantFluxCases(t, []fluxCase{
		{"equal surfaces", "0|0", []int{500, 500}, flat, []int{0}},
		{"equal surfaces over different beds", "0|0", []int{500, 400}, []int{0, 100}, []int{0}},
		{"two empty leaves", "0|0", []int{0, 0}, flat, []int{0}},
		{"a difference of 1", "0|0", []int{501, 500}, flat, []int{0}},
		{"a difference of -1", "0|0", []int{500, 501}, flat, []int{0}},
		{"the greatest difference that is rounded to 0", "0|0", []int{563, 500}, flat, []int{0}},
		{"the least difference that is rounded to 0", "0|0", []int{500, 563}, flat, []int{0}},
		{"the least difference of a flux of 1", "0|0", []int{564, 500}, flat, []int{1}},
		{"the greatest difference of a flux of -1", "0|0", []int{500, 564}, flat, []int{-1}},
		{"a difference that is rounded down to 1", "0|0", []int{627, 500}, flat, []int{1}},
		{"a difference that is rounded up to -1", "0|0", []int{500, 627}, flat, []int{-1}},
		{"half more than a flux of -1", "0|0", []int{500, 596}, flat, []int{-1}},
		{"a flux of 2", "0|0", []int{628, 500}, flat, []int{2}},
		{"a flux of -2", "0|0", []int{500, 628}, flat, []int{-2}},
		{"the difference of two beds", "0|0", []int{500, 500}, []int{640, 0}, []int{10}},
		{"a difference of the masses against that of the beds", "0|0", []int{500, 5000}, []int{4900, 0}, []int{6}},
		{"the level 1", "11", []int{500, 100}, []int{7}, []int{12}},
		{"the level 1 at a border", "11|11", []int{0, 500, 100, 100}, []int{0, 0}, []int{-15, 12, 0}},
		{"the level 1, with a rest", "11", []int{100, 227}, []int{7}, []int{-3}},
		{"the level 2", "2222", []int{500, 100, 100, 116}, []int{7}, []int{25, 0, -1}},
		{"the level 2, with a rest", "2222", []int{100, 115, 147, 100}, []int{0}, []int{0, -2, 2}},
		{"the level 3", "33333333", []int{500, 100, 107, 108, 100, 100, 500, 0}, []int{7}, []int{50, 0, 0, 1, 0, -50, 62}},
		{"the level 4", "4444444444444444", []int{500, 100, 103, 107, 100, 100, 500, 0, 0, 0, 0, 0, 0, 0, 3, 7}, []int{7}, []int{100, 0, -1, 1, 0, -100, 125, 0, 0, 0, 0, 0, 0, 0, -1}},
		{"a long channel", "0|0|0|0|0|0|0|0", []int{0, 64, 192, 191, 255, 100000, 63, 127}, make([]int, 8), []int{-1, -2, 0, -1, -1558, 1561, -1}},
		{"the greatest difference of the level 0", "0|0", []int{10000000, 0}, []int{1000000, 0}, []int{171875}},
	})
}

// TestFluxesOfTwoLevels has differences that are divided by 96, whichever levels they are.
func TestFluxesOfTwoLevels(t *testing.T) {
	wantFluxCases(t, []fluxCase{
		{"within a root", "122", []int{400, 0, 7}, []int{0}, []int{8, 0}},
		{"within a root, into the coarser leaf", "122", []int{0, 200, 0}, []int{0}, []int{-8, 12}},
		{"the levels 2 and 3 within a root", "1233", []int{0, 0, 100, 0}, []int{0}, []int{0, -8, 12}},
		{"the levels 3 and 4 within a root", "12344", []int{0, 0, 0, 60, 0}, []int{0}, []int{0, 0, -10, 15}},
		{"between two roots", "0|11", []int{800, 0, 0}, []int{0, 0}, []int{8, 0}},
		{"between two roots, into the coarser leaf", "0|11", []int{0, 400, 0}, []int{0, 0}, []int{-8, 12}},
		{"between two roots of different beds", "0|11", []int{100, 100, 100}, []int{1060, 0}, []int{10, 0}},
		{"the levels 1 and 2 between two roots", "11|221", []int{0, 0, 200, 0, 0}, []int{0, 0}, []int{0, -8, 12, 0}},
		{"the levels 3 and 4 between two roots", "1233|44321", []int{0, 0, 0, 0, 60, 0, 0, 0, 0}, []int{0, 0}, []int{0, 0, 0, -10, 15, 0, 0, 0}},
		{"equal surfaces", "0|11", []int{800, 400, 400}, []int{0, 0}, []int{0, 0}},
		{"equal surfaces over different beds", "0|11", []int{800, 300, 300}, []int{0, 200}, []int{0, 0}},
		{"the greatest difference that is rounded to 0", "0|11", []int{895, 400, 400}, []int{0, 0}, []int{0, 0}},
		{"the least difference of a flux of 1", "0|11", []int{896, 400, 400}, []int{0, 0}, []int{1, 0}},
		{"the least difference that is rounded to 0", "0|11", []int{705, 400, 400}, []int{0, 0}, []int{0, 0}},
		{"the greatest difference of a flux of -1", "0|11", []int{704, 400, 400}, []int{0, 0}, []int{-1, 0}},
		{"a difference that is rounded up to -1", "0|11", []int{609, 400, 400}, []int{0, 0}, []int{-1, 0}},
		{"a flux of -2", "0|11", []int{608, 400, 400}, []int{0, 0}, []int{-2, 0}},
		{"a difference that is rounded down to 1", "0|11", []int{991, 400, 400}, []int{0, 0}, []int{1, 0}},
	})
}

// TestFluxesOfDryLeaves has leaves with no mass, out of which nothing flows.
func TestFluxesOfDryLeaves(t *testing.T) {
	wantFluxCases(t, []fluxCase{
		{"a bed above the surface of the neighbour on the right", "0|0", []int{0, 500}, []int{10000, 0}, []int{0}},
		{"a bed above the surface of the neighbour on the left", "0|0", []int{500, 0}, []int{0, 10000}, []int{0}},
		{"the highest bed and a dry neighbour", "0|0", []int{0, 0}, []int{1000000, 0}, []int{0}},
		{"a bed one unit above the surface of the neighbour", "0|0", []int{0, 500}, []int{501, 0}, []int{0}},
		{"a bed 64 units above the surface of the neighbour", "0|0", []int{0, 500}, []int{564, 0}, []int{0}},
		{"a bed equal to the surface of the neighbour", "0|0", []int{0, 500}, []int{500, 0}, []int{0}},
		{"a bed just below the surface of the neighbour", "0|0", []int{0, 500}, []int{437, 0}, []int{0}},
		{"a bed so low that something flows in", "0|0", []int{0, 500}, []int{436, 0}, []int{-1}},
		{"a bed of 0", "0|0", []int{0, 6400}, []int{0, 0}, []int{-100}},
		{"a bed far below that of the neighbour", "0|0", []int{0, 500}, []int{0, 1000000}, []int{-125}},
		{"a bed above the surface of a finer neighbour", "0|11", []int{0, 500, 500}, []int{10000, 0}, []int{0, 0}},
		{"a bed above the surface of a coarser neighbour", "0|11", []int{500, 0, 0}, []int{0, 10000}, []int{0, 0}},
		{"a bed below the surface of a finer neighbour", "0|11", []int{0, 500, 500}, []int{40, 0}, []int{-10, 0}},
		{"a bed below the surface of a coarser neighbour", "0|11", []int{5000, 0, 0}, []int{0, 40}, []int{51, 0}},
		{"between two wet leaves", "0|0|0", []int{500, 0, 500}, []int{0, 10000, 0}, []int{0, 0}},
		{"below two wet leaves", "0|0|0", []int{500, 0, 500}, []int{140, 0, 140}, []int{10, -10}},
		{"below a wet leaf and above another one", "0|0|0", []int{500, 0, 500}, []int{10000, 5000, 0}, []int{85, 0}},
		{"within a root", "2222", []int{0, 400, 0, 0}, []int{5}, []int{-25, 25, 0}},
	})
}

// TestFluxesThatAreBounded has differences for which a quarter of a leaf is not enough.
func TestFluxesThatAreBounded(t *testing.T) {
	high, steep := []int{1000000, 0}, []int{0, 1000000}
	wantFluxCases(t, []fluxCase{
		{"a quarter of the leaf on the left", "0|0", []int{400, 0}, high, []int{100}},
		{"a quarter of the leaf on the right", "0|0", []int{0, 400}, steep, []int{-100}},
		{"a quarter of the leaf on the left, with one on the right", "0|0", []int{400, 12}, high, []int{100}},
		{"a quarter of the leaf on the right, with one on the left", "0|0", []int{12, 400}, steep, []int{-100}},
		{"four", "0|0", []int{4, 9}, high, []int{1}},
		{"four on the right", "0|0", []int{9, 4}, steep, []int{-1}},
		{"one more than four divides", "0|0", []int{401, 0}, high, []int{100}},
		{"two more than four divides", "0|0", []int{402, 0}, high, []int{100}},
		{"three more than four divides", "0|0", []int{403, 0}, high, []int{100}},
		{"one more than four divides, on the right", "0|0", []int{0, 401}, steep, []int{-100}},
		{"two more than four divides, on the right", "0|0", []int{0, 402}, steep, []int{-100}},
		{"three more than four divides, on the right", "0|0", []int{0, 403}, steep, []int{-100}},
		{"seven", "0|0", []int{7, 0}, high, []int{1}},
		{"seven on the right", "0|0", []int{0, 7}, steep, []int{-1}},
		{"three", "0|0", []int{3, 500}, high, []int{0}},
		{"three on the right", "0|0", []int{500, 3}, steep, []int{0}},
		{"two", "0|0", []int{2, 500}, high, []int{0}},
		{"one", "0|0", []int{1, 500}, high, []int{0}},
		{"one on the right", "0|0", []int{500, 1}, steep, []int{0}},
		{"a flux of exactly a quarter", "0|0", []int{400, 0}, []int{6000, 0}, []int{100}},
		{"a flux of one unit less than a quarter", "0|0", []int{400, 0}, []int{5999, 0}, []int{99}},
		{"a flux of one unit more than a quarter", "0|0", []int{400, 0}, []int{6064, 0}, []int{100}},
		{"a flux of one unit less than a quarter, on the right", "0|0", []int{0, 400}, []int{0, 5999}, []int{-99}},
		{"a flux of one unit more than a quarter, on the right", "0|0", []int{0, 400}, []int{0, 6064}, []int{-100}},
		{"a finer leaf on the left", "11|0", []int{0, 30, 0}, high, []int{0, 7}},
		{"a finer leaf on the right", "0|11", []int{0, 30, 0}, steep, []int{-7, 0}},
		{"a coarser leaf on the left", "0|11", []int{31, 0, 0}, high, []int{7, 0}},
		{"a coarser leaf on the right", "11|0", []int{0, 0, 31}, steep, []int{0, -7}},
		{"a quarter at both borders of a root", "0|0|0", []int{0, 401, 0}, []int{0, 1000000, 0}, []int{-100, 100}},
		{"the greatest mass in the deepest level", "12344|44321", []int{0, 0, 0, 0, 10000000, 0, 0, 0, 0, 0}, high, []int{0, 0, 0, -2500000, 2500000, 0, 0, 0, 0}},
		{"the greatest mass that four does not divide", "12344|44321", []int{0, 0, 0, 0, 9999999, 0, 0, 0, 0, 0}, high, []int{0, 0, 0, -2499999, 2499999, 0, 0, 0, 0}},
	})
}

func TestFluxesOfOneLeaf(t *testing.T) {
	byText := shapesByText()
	for _, mass := range []int{0, 1, 500, 10000000} {
		for _, bed := range []int{0, 7, 1000000} {
			s := cleanPlain("0", []int{mass}, []int{bed}).state(t, byText)
			wantFluxes(t, s, []int{mass + bed}, []int{}, -1)
		}
	}
}

func TestSteepestFace(t *testing.T) {
	byText := shapesByText()
	cases := []struct {
		name      string
		text      string
		mass, bed []int
		want      int
	}{
		{"the first face", "2222", []int{500, 100, 110, 90}, []int{0}, 0},
		{"a face in the midst", "2222", []int{500, 510, 90, 100}, []int{0}, 1},
		{"the last face", "2222", []int{500, 510, 490, 90}, []int{0}, 2},
		{"the first face, with a negative difference", "2222", []int{100, 500, 490, 510}, []int{0}, 0},
		{"a face in the midst, with a negative difference", "2222", []int{100, 90, 510, 500}, []int{0}, 1},
		{"the last face, with a negative difference", "2222", []int{90, 110, 100, 500}, []int{0}, 2},
		{"a negative difference beside a positive one that is less", "11|11", []int{500, 100, 501, 501}, []int{0, 0}, 1},
		{"a positive difference beside a negative one that is less", "11|11", []int{100, 500, 99, 99}, []int{0, 0}, 1},
		{"equal differences", "2222", []int{400, 300, 200, 100}, []int{0}, 0},
		{"equal differences but the first", "2222", []int{310, 300, 200, 100}, []int{0}, 1},
		{"equal differences but the last", "2222", []int{300, 200, 100, 90}, []int{0}, 0},
		{"equal negative differences", "2222", []int{100, 200, 300, 400}, []int{0}, 0},
		{"equal differences of both signs", "2222", []int{100, 400, 100, 400}, []int{0}, 0},
		{"a negative difference before an equal positive one", "2222", []int{300, 300, 400, 300}, []int{0}, 1},
		{"a positive difference before an equal negative one", "2222", []int{300, 300, 200, 300}, []int{0}, 1},
		{"the first and the last face", "2222", []int{500, 100, 100, 500}, []int{0}, 0},
		{"all surfaces equal", "2222", []int{400, 400, 400, 400}, []int{0}, 0},
		{"all surfaces equal, over different beds and of different levels", "0|11|0", []int{30, 10, 10, 20}, []int{0, 10, 10}, 0},
		{"all leaves dry", "0|0|0", []int{0, 0, 0}, []int{5, 5, 5}, 0},
		{"all leaves dry, over different beds", "0|0|0", []int{0, 0, 0}, []int{5, 6, 8}, 1},
		{"a single difference, of one unit of mass", "2222|11", []int{0, 0, 0, 1, 2, 2}, []int{0, 0}, 2},
		{"two leaves", "0|0", []int{5, 9}, []int{0, 0}, 0},
		{"two leaves of equal surfaces", "11", []int{5, 5}, []int{0}, 0},
		{"one leaf", "0", []int{5}, []int{3}, -1},
		{"a difference that a finer leaf doubles", "0|0|11", []int{100, 0, 0, 60}, []int{0, 0, 0}, 2},
		{"a difference of the masses that the beds even out", "0|0|0", []int{500, 100, 90}, []int{0, 400, 400}, 1},
		{"a difference of the surfaces through which less flows", "0|0|0", []int{6400, 0, 0}, []int{0, 0, 1000000}, 1},
		{"a steep face of two levels, through which less flows", "0|0|11", []int{1000, 0, 510, 510}, []int{0, 0, 0}, 1},
		{"the last of eight roots", "0|0|0|0|0|0|0|0", []int{1, 2, 3, 4, 5, 6, 7, 9}, make([]int, 8), 6},
		{"the greatest difference, and another one", "0|0|0|12344", []int{0, 0, 0, 0, 0, 0, 0, 10000000}, []int{1000000, 0, 0, 0}, 6},
	}
	for _, c := range cases {
		s := cleanPlain(c.text, c.mass, c.bed).state(t, byText)
		wantTotals(t, s)
		if got := impl.SteepestFace(s); got != c.want {
			t.Errorf("%s: SteepestFace of %q, %v, is %d; want %d", c.name, c.text, s, got, c.want)
		}
	}
}

// TestFluxesOfKnownStates compares each function with its oracle, on states of all shapes.
func TestFluxesOfKnownStates(t *testing.T) {
	byText := shapesByText()
	for _, p := range fluxPlains() {
		wantPlainFluxes(t, p, byText)
	}
}

// fluxPlains returns states with fluxes of all kinds: those of balancedPlains, whose beds are far from each other, the
// same ones seen from the other side, and the same ones over flat beds and over beds that differ little.
func fluxPlains() []plainState {
	var states []plainState
	for n, p := range balancedPlains() {
		states = append(states, p, mirroredPlain(p))
		for _, slope := range []int{0, 65, 7001} {
			bed := make([]int, len(p.bed))
			for root := range bed {
				bed[root] = slope * ((root*5 + n) % 7)
			}
			states = append(states, plainState{p.text, p.mass, p.tracer, bed})
		}
	}
	return states
}

// TestWaterFlowsDownhill states the promise itself, for all fluxes of all kinds.
func TestWaterFlowsDownhill(t *testing.T) {
	byText := shapesByText()
	toTheRight, toTheLeft, bounded, free, none := 0, 0, 0, 0, 0
	for _, p := range fluxPlains() {
		s := p.state(t, byText)
		for i, flux := range impl.AllFluxes(s) {
			from, to := i, i+1
			if flux < 0 {
				from, to = i+1, i
			}
			if flux != 0 && impl.SurfaceOf(s, from) <= impl.SurfaceOf(s, to) {
				t.Fatalf("%d flows uphill through the face %d of %v", flux, i, s)
			}
			if amount := max(flux, -flux); 4*amount > s.Mass[from] {
				t.Fatalf("%d, more than a quarter of the leaf %d, flows out of it in %v", amount, from, s)
			}
			switch amount := max(flux, -flux); {
			case flux == 0:
				none++
			case amount == s.Mass[from]/4:
				bounded++
			default:
				free++
			}
			if flux > 0 {
				toTheRight++
			} else if flux < 0 {
				toTheLeft++
			}
		}
	}
	if min(toTheRight, toTheLeft, bounded, free, none) < 1000 {
		t.Errorf("there are only %d fluxes to the right, %d to the left, %d bounded and %d other ones, and %d of 0", toTheRight, toTheLeft, bounded, free, none)
	}
}

// TestFluxesFromTheOtherSide compares the fluxes of a channel with those of the same channel seen from the other side.
func TestFluxesFromTheOtherSide(t *testing.T) {
	byText := shapesByText()
	for _, p := range balancedPlains() {
		got, want := impl.AllFluxes(mirroredPlain(p).state(t, byText)), negatedFromTheEnd(impl.AllFluxes(p.state(t, byText)))
		if !slices.Equal(got, want) {
			t.Fatalf("the fluxes of %v are %v from the other side; want %v", p, got, want)
		}
	}
}

// TestFluxesDoNotDependOnTheTracer compares the fluxes of states that differ in their tracers.
func TestFluxesDoNotDependOnTheTracer(t *testing.T) {
	byText := shapesByText()
	for _, p := range balancedPlains() {
		clean := cleanPlain(p.text, p.mass, p.bed)
		full := cleanPlain(p.text, p.mass, p.bed)
		for i, mass := range full.mass {
			full.tracer[i] = 1000 * mass
		}
		a, b := clean.state(t, byText), full.state(t, byText)
		if !slices.Equal(impl.AllFluxes(a), impl.AllFluxes(b)) || impl.SteepestFace(a) != impl.SteepestFace(b) {
			t.Fatalf("the fluxes of %v are %v with the most tracer, and %v without", a, impl.AllFluxes(b), impl.AllFluxes(a))
		}
	}
}

// steepPlains returns states through each face of which something flows.
func steepPlains() []plainState {
	return []plainState{
		{"0|0", []int{5, 9999995}, []int{5000, 7}, []int{0, 1000000}},
		{"122|11", []int{4000, 500, 3, 8000, 5}, []int{1, 2, 3, 4, 5}, []int{9, 10}},
		{"0|12344", []int{70000, 8, 90000, 7, 9000, 4}, []int{0, 8000, 9, 0, 1, 2}, []int{1000000, 3}},
		{"11|0|122", []int{900, 8, 7000, 1, 6000, 6}, []int{0, 0, 5, 0, 7, 6}, []int{7, 7, 90}},
	}
}

func TestFluxesAtExtremeIndices(t *testing.T) {
	byText := shapesByText()
	states := baseStates(t)
	for _, p := range steepPlains() {
		wantPlainFluxes(t, p, byText)
		states = append(states, p.state(t, byText))
	}
	for _, s := range states {
		for _, i := range append(extremeInts(), extremeCellNumbers()...) {
			if got := impl.SurfaceOf(s, i); (i < 0 || i >= len(s.Mass)) && got != 0 {
				t.Errorf("SurfaceOf(%v, %d) = %d; want 0", s, i, got)
			}
			if got := impl.FaceFlux(s, i); (i < 0 || i >= len(s.Mass)-1) && got != 0 {
				t.Errorf("FaceFlux(%v, %d) = %d; want 0", s, i, got)
			}
		}
	}
}

func TestFluxesOfInvalidStates(t *testing.T) {
	for s := range invalidStates(t) {
		wantNoFluxes(t, s)
	}
}

// TestFluxesOfSteepStatesThatAreNotValid has states of which one list is spoilt, through whose other faces something would flow.
func TestFluxesOfSteepStatesThatAreNotValid(t *testing.T) {
	byText := shapesByText()
	for _, p := range steepPlains() {
		s := p.state(t, byText)
		if slices.Contains(impl.AllFluxes(s), 0) {
			t.Fatalf("nothing flows through a face of %v: %v", s, impl.AllFluxes(s))
		}
		for spoilt := range spoiltStates(s) {
			wantNoFluxes(t, spoilt)
		}
	}
}

// almostValidStates returns states with one number that is out of its range by one unit, or with a mesh that is not
// balanced, and a few with numbers that are far out of their range.
func almostValidStates(t *testing.T) []impl.State {
	t.Helper()
	byText := shapesByText()
	var states []impl.State
	numbers := func(n ...int) []int { return n }
	mass, tracer, bed := numbers(4000, 500, 3, 8000, 5), numbers(1, 2, 3, 4, 5), numbers(9, 10)
	for _, p := range []plainState{
		{"122|11", numbers(4000, 500, -1, 8000, 5), numbers(1, 2, 0, 4, 5), bed},
		{"122|11", numbers(4000, 500, 3, 8000, -1), numbers(1, 2, 3, 4, 0), bed},
		{"122|11", numbers(9991493, 500, 3, 8000, 5), tracer, bed},
		{"122|11", numbers(4000, 500, 3, 8000, 9987498), tracer, bed},
		{"122|11", mass, numbers(4000001, 2, 3, 4, 5), bed},
		{"122|11", mass, numbers(1, 2, 3, 4, 5001), bed},
		{"122|11", mass, numbers(1, 2, -1, 4, 5), bed},
		{"122|11", mass, tracer, numbers(-1, 10)},
		{"122|11", mass, tracer, numbers(9, -1)},
		{"122|11", mass, tracer, numbers(1000001, 10)},
		{"122|11", mass, tracer, numbers(9, 1000001)},
		{"122|11", mass[:4], tracer[:4], bed},
		{"122|11", mass, tracer[:4], bed},
		{"122|11", mass, tracer, bed[:1]},
		{"122|11", mass, tracer, numbers(9, 10, 11)},
		{"122|11", nil, nil, nil},
		{"122|0", mass[:4], tracer[:4], bed},
		{"0|221", mass[:4], tracer[:4], bed},
		{"1332", numbers(8000, 0, 100, 0), make([]int, 4), bed[:1]},
		{"122|11", numbers(1<<62, 1<<62, 1<<62, 1<<62, 5), tracer, bed},
		{"122|11", numbers(math.MaxInt, math.MaxInt, 3, 8000, 5), tracer, bed},
		{"0", numbers(10000001), numbers(0), numbers(0)},
		{"0|0", numbers(10000000, 1), numbers(0, 0), numbers(0, 0)},
		{"0|0", numbers(1<<61, 0), numbers(0, 0), numbers(0, 0)},
		{"0|0", numbers(math.MinInt, math.MinInt), numbers(0, 0), numbers(0, 0)},
		{"0|0", numbers(500, 0), numbers(0, 0), numbers(math.MaxInt, math.MinInt)},
		{"0|0", numbers(500, 0), numbers(math.MaxInt, math.MinInt), numbers(0, 0)},
	} {
		states = append(states, p.state(t, byText))
	}
	one := steepPlains()[1].state(t, byText)
	for _, roots := range []int{0, 1, 3, 9, -2} {
		states = append(states, impl.State{Mesh: impl.Mesh{Roots: roots, Leaves: one.Mesh.Leaves}, Mass: one.Mass, Tracer: one.Tracer, Bed: one.Bed})
	}
	return states
}

func TestFluxesOfStatesThatAreAlmostValid(t *testing.T) {
	for _, s := range almostValidStates(t) {
		wantNoFluxes(t, s)
	}
}

// TestFluxesChangeNothing calls each function with spare capacity behind the lists, which must not count, and changes
// the fluxes that were returned before, which must not count either.
func TestFluxesChangeNothing(t *testing.T) {
	byText := shapesByText()
	states := append(baseStates(t), unevenStates(t)...)
	for _, p := range steepPlains() {
		states = append(states, p.state(t, byText))
	}
	for _, s := range states {
		given := withSpare(s)
		before := copyOfState(withAll(given))
		got := impl.AllFluxes(given)
		want := slices.Clone(got)
		for i := range got[:cap(got)] {
			got[:cap(got)][i] = -99
		}
		again := impl.AllFluxes(given)
		steepest := impl.SteepestFace(given)
		for i := range s.Mass {
			if impl.SurfaceOf(given, i) != impl.SurfaceOf(s, i) || impl.FaceFlux(given, i) != valueAt(want, i) {
				t.Errorf("the surface and the flux of %v at %d are %d and %d with spare capacity", s, i, impl.SurfaceOf(given, i), impl.FaceFlux(given, i))
			}
		}
		if !sameAsState(withAll(given), before) {
			t.Errorf("the state %v has been changed: %v", before, withAll(given))
		}
		if !slices.Equal(again, want) || !slices.Equal(impl.AllFluxes(s), want) || steepest != impl.SteepestFace(s) {
			t.Errorf("the fluxes of %v are %v, then %v, and the steepest face is %d", s, want, again, steepest)
		}
		overwrite(given)
		if !slices.Equal(again, want) {
			t.Errorf("the fluxes %v change with the state: %v", want, again)
		}
	}
}
