package tests

import (
	"math"
	"math/big"
	"slices"
	"testing"

	"loop.example/g00982/impl"
)

// exactOut is the oracle of LeafOut, in arithmetic without limits. exactShare refuses a mass or a tracer out of its range.
func exactOut(tracer int, mass int, right int, left int) (int, int) {
	both := new(big.Int).Add(big.NewInt(int64(right)), big.NewInt(int64(left)))
	if right < 0 || left < 0 || both.Cmp(big.NewInt(int64(mass))) > 0 {
		return 0, 0
	}
	toTheRight := exactShare(tracer, right, mass)
	return toTheRight, exactShare(tracer, right+left, mass) - toTheRight
}

// countedOut is an oracle without division: the mass and the tracer are laid out along one line, from the mass that
// leaves to the right on, and each unit of tracer goes where its end lies.
func countedOut(tracer int, mass int, right int, left int) (int, int) {
	toTheRight, toTheLeft := 0, 0
	for unit := 1; unit <= tracer; unit++ {
		switch end := unit * mass; {
		case end <= tracer*right:
			toTheRight++
		case end <= tracer*(right+left):
			toTheLeft++
		}
	}
	return toTheRight, toTheLeft
}

func wantOut(t *testing.T, tracer int, mass int, right int, left int, wantRight int, wantLeft int) {
	t.Helper()
	if a, b := impl.LeafOut(tracer, mass, right, left); a != wantRight || b != wantLeft {
		t.Fatalf("LeafOut(%d, %d, %d, %d) = %d, %d; want %d, %d", tracer, mass, right, left, a, b, wantRight, wantLeft)
	}
}

type outCase struct {
	name                string
	tracer, mass        int
	right, left         int
	wantRight, wantLeft int
}

func wantOutCases(t *testing.T, cases []outCase) {
	t.Helper()
	for _, c := range cases {
		if a, b := impl.LeafOut(c.tracer, c.mass, c.right, c.left); a != c.wantRight || b != c.wantLeft {
			t.Errorf("%s: LeafOut(%d, %d, %d, %d) = %d, %d; want %d, %d", c.name, c.tracer, c.mass, c.right, c.left, a, b, c.wantRight, c.wantLeft)
		}
	}
}

func TestLeafOut(t *testing.T) {
	wantOutCases(t, []outCase{
		{"to both sides", 10, 4, 1, 1, 2, 3},
		{"to both sides, without a rest", 12, 4, 1, 1, 3, 3},
		{"to both sides, more to the right", 10, 4, 2, 1, 5, 2},
		{"to both sides, more to the left", 10, 4, 1, 2, 2, 5},
		{"to the right only", 10, 4, 3, 0, 7, 0},
		{"to the left only", 10, 4, 0, 3, 0, 7},
		{"to none", 10, 4, 0, 0, 0, 0},
		{"to none, of the greatest share", 4000, 4, 0, 0, 0, 0},
		{"a share of the right that is rounded down to 0, and one of both that is not", 1, 2, 1, 1, 0, 1},
		{"shares of the right and of both that are rounded down to 0", 1, 3, 1, 1, 0, 0},
		{"a share of both of which the left side gets the rest", 2, 3, 1, 1, 0, 1},
		{"shares of the right and of both that are rounded down to 1 and 3", 5, 3, 1, 1, 1, 2},
		{"a share of the right with a rest and one of both without", 10, 4, 1, 3, 2, 8},
		{"a share of the right without a rest and one of both with one", 9, 6, 2, 1, 3, 1},
		{"a left side that gets no more than its rounded share alone", 7, 5, 3, 1, 4, 1},
		{"a left side that gets more than its rounded share alone", 7, 5, 2, 1, 2, 2},
		{"the whole mass to the right", 10, 4, 4, 0, 10, 0},
		{"the whole mass to the left", 10, 4, 0, 4, 0, 10},
		{"the whole mass to both sides", 11, 4, 2, 2, 5, 6},
		{"the whole mass to both sides, most of it to the right", 10, 4, 3, 1, 7, 3},
		{"the whole mass but one unit", 10, 4, 2, 1, 5, 2},
		{"a mass of 1 to the right", 7, 1, 1, 0, 7, 0},
		{"a mass of 1 to the left", 7, 1, 0, 1, 0, 7},
		{"a mass of 1 to none", 7, 1, 0, 0, 0, 0},
		{"a mass of 1 and no tracer", 0, 1, 1, 0, 0, 0},
		{"a mass of 1 and the greatest share to the right", 1000, 1, 1, 0, 1000, 0},
		{"a mass of 1 and the greatest share to the left", 1000, 1, 0, 1, 0, 1000},
		{"no tracer", 0, 4, 1, 2, 0, 0},
		{"the greatest share", 4000, 4, 1, 2, 1000, 2000},
		{"the greatest share but one unit", 3999, 4, 1, 2, 999, 2000},
		{"the greatest mass and tracer", 10000000000, 10000000, 2500000, 2500000, 2500000000, 2500000000},
		{"the greatest mass, and one unit of tracer less", 9999999999, 10000000, 2500000, 2500000, 2499999999, 2500000000},
		{"the greatest mass and tracer, all to the right", 10000000000, 10000000, 10000000, 0, 10000000000, 0},
		{"the greatest mass and tracer, all to the left", 10000000000, 10000000, 0, 10000000, 0, 10000000000},
		{"the greatest mass and tracer, all to both sides", 10000000000, 10000000, 1, 9999999, 1000, 9999999000},
		{"the greatest mass and no tracer", 0, 10000000, 5000000, 5000000, 0, 0},
		{"the greatest mass and tracer of 1", 1, 10000000, 5000000, 5000000, 0, 1},
		{"the greatest mass and tracer of 1 that stays", 1, 10000000, 5000000, 4999999, 0, 0},
		{"the greatest mass and tracer of 1 that leaves to the right", 1, 10000000, 10000000, 0, 1, 0},
	})
}

func TestLeafOutOfInvalidNumbers(t *testing.T) {
	wantOutCases(t, []outCase{
		{"no mass", 0, 0, 0, 0, 0, 0},
		{"no mass, and tracer", 1, 0, 0, 0, 0, 0},
		{"no mass, and something that leaves", 0, 0, 1, 1, 0, 0},
		{"a mass below 0", 0, -1, 0, 0, 0, 0},
		{"all numbers below 0", -1000, -1, -1, -1, 0, 0},
		{"a mass one unit above the greatest", 10000001, 10000001, 1000000, 1000000, 0, 0},
		{"a mass one unit above the greatest that leaves", 10000001, 10000001, 10000001, 0, 0, 0},
		{"a mass whose product with the greatest share becomes 0", 0, 1 << 61, 1, 1, 0, 0},
		{"tracer one unit below 0", -1, 4, 1, 1, 0, 0},
		{"tracer one unit above the greatest share", 4001, 4, 1, 2, 0, 0},
		{"tracer one unit above the greatest share, all to the right", 4001, 4, 4, 0, 0, 0},
		{"tracer one unit above that of the greatest mass", 10000000001, 10000000, 5000000, 5000000, 0, 0},
		{"one unit below 0 to the right", 10, 4, -1, 2, 0, 0},
		{"one unit below 0 to the left", 10, 4, 2, -1, 0, 0},
		{"all to the right, and one unit below 0 to the left", 10, 4, 4, -1, 0, 0},
		{"more than the mass to the right, and one unit below 0 to the left", 10, 4, 5, -1, 0, 0},
		{"more than the mass to the left, and one unit below 0 to the right", 10, 4, -1, 5, 0, 0},
		{"one unit more than the mass to the right", 10, 4, 5, 0, 0, 0},
		{"one unit more than the mass to the left", 10, 4, 0, 5, 0, 0},
		{"one unit more than the mass to both sides", 10, 4, 3, 2, 0, 0},
		{"one unit more than the mass of 1", 7, 1, 1, 1, 0, 0},
		{"one unit more than the greatest mass", 10000000000, 10000000, 5000000, 5000001, 0, 0},
		{"the whole mass to each side", 10, 4, 4, 4, 0, 0},
		{"masses whose sum is just above the greatest int", 10, 4, math.MaxInt, 1, 0, 0},
		{"masses whose sum is just above the greatest int, from the left", 10, 4, 1, math.MaxInt, 0, 0},
		{"masses whose sum does not fit an int", 10, 4, 1 << 62, 1 << 62, 0, 0},
		{"masses whose sum would be -2", 10, 4, math.MaxInt, math.MaxInt, 0, 0},
		{"masses whose sum is 0", 10, 4, math.MinInt + 1, math.MaxInt, 0, 0},
		{"masses whose sum would become 0", 10, 4, math.MinInt, math.MinInt, 0, 0},
		{"the greatest int to the right and its negative to the left", 10, 4, math.MaxInt, -math.MaxInt, 0, 0},
		{"the least int and one unit to the left", 10, 4, 1, math.MinInt, 0, 0},
		{"the greatest numbers", math.MaxInt, math.MaxInt, math.MaxInt, math.MaxInt, 0, 0},
		{"the greatest numbers, and nothing that leaves", math.MaxInt, math.MaxInt, 0, 0, 0, 0},
		{"the least numbers", math.MinInt, math.MinInt, math.MinInt, math.MinInt, 0, 0},
	})
}

// TestLeafOutOfSmallNumbers asks for all small masses that leave a leaf, and for a few that do not.
func TestLeafOutOfSmallNumbers(t *testing.T) {
	for mass := -1; mass <= 8; mass++ {
		tracers := []int{1000*mass - 2, 1000*mass - 1, 1000 * mass, 1000*mass + 1}
		for tracer := -2; tracer <= 50; tracer++ {
			tracers = append(tracers, tracer)
		}
		for _, tracer := range tracers {
			for right := -2; right <= mass+2; right++ {
				for left := -2; left <= mass+2; left++ {
					toTheRight, toTheLeft := exactOut(tracer, mass, right, left)
					wantOut(t, tracer, mass, right, left, toTheRight, toTheLeft)
					if mass >= 1 && tracer >= 0 && tracer <= 1000*mass && right >= 0 && left >= 0 && right+left <= mass {
						toTheRight, toTheLeft = countedOut(tracer, mass, right, left)
						wantOut(t, tracer, mass, right, left, toTheRight, toTheLeft)
					}
				}
			}
		}
	}
}

// TestLeafOutAtItsLimits asks around the limits of each number and at the extremes of an int.
func TestLeafOutAtItsLimits(t *testing.T) {
	extremes := []int{math.MinInt, math.MinInt + 1, math.MinInt / 2, -1, 0, 1, 2, math.MaxInt / 2, math.MaxInt/2 + 1, math.MaxInt - 1, math.MaxInt}
	for _, mass := range append(extremeInts(), 9999999, 10000000, 10000001) {
		for _, tracer := range append(extremes, 500*mass+1, 1000*mass-1, 1000*mass, 1000*mass+1) {
			for _, right := range append(extremes, mass/3, mass-1, mass, mass+1) {
				for _, left := range append(extremes, mass/2, mass-right-1, mass-right, mass-right+1) {
					toTheRight, toTheLeft := exactOut(tracer, mass, right, left)
					wantOut(t, tracer, mass, right, left, toTheRight, toTheLeft)
				}
			}
		}
	}
}

// A blend is a mass with tracer in it.
type blend struct{ tracer, mass int }

// partsOfLeaf returns what leaves a leaf to its right and to its left, and what stays.
func partsOfLeaf(tracer int, mass int, right int, left int) [3]blend {
	toTheRight, toTheLeft := impl.LeafOut(tracer, mass, right, left)
	return [3]blend{{toTheRight, right}, {toTheLeft, left}, {tracer - toTheRight - toTheLeft, mass - right - left}}
}

// wantSharesKept states the promise for one leaf: no part has a greater or a smaller share than the leaf, counted in
// whole numbers; and no part differs by a whole unit from what it would have without rounding.
func wantSharesKept(t *testing.T, tracer int, mass int, right int, left int) {
	t.Helper()
	least := exactFloor(tracer, mass)
	greatest := least
	if tracer > least*mass {
		greatest++
	}
	for n, part := range partsOfLeaf(tracer, mass, right, left) {
		if part.tracer < least*part.mass || part.tracer > greatest*part.mass {
			t.Fatalf("the part %d of (%d, %d, %d, %d) has %d in %d; its share leaves the range from %d to %d", n, tracer, mass, right, left, part.tracer, part.mass, least, greatest)
		}
		if off := part.tracer*mass - tracer*part.mass; off >= mass || off <= -mass || n == 0 && off > 0 || n == 2 && off < 0 {
			t.Fatalf("the part %d of (%d, %d, %d, %d) has %d in %d; %d units off", n, tracer, mass, right, left, part.tracer, part.mass, off/mass)
		}
	}
}

// TestWhatLeavesALeafHasItsShare states the promise itself, for leaves of all kinds.
func TestWhatLeavesALeafHasItsShare(t *testing.T) {
	count := 0
	for _, mass := range []int{1, 2, 3, 4, 5, 7, 8, 12, 100, 999, 1000, 65537, 9999991, 10000000} {
		for _, tracer := range []int{0, 1, 2, mass / 2, mass - 1, mass, mass + 1, 3*mass + 1, 7*mass - 1, 333*mass + mass/3, 999*mass + 1, 1000*mass - 1, 1000 * mass} {
			for _, right := range []int{0, 1, 2, 3, mass / 4, mass / 3, mass / 2, mass - 1, mass} {
				for _, left := range []int{0, 1, 2, 3, mass / 4, mass / 3, mass - right - 1, mass - right} {
					if tracer <= 1000*mass && left >= 0 && right+left <= mass {
						wantSharesKept(t, tracer, mass, right, left)
						count++
					}
				}
			}
		}
	}
	if count < 5000 {
		t.Errorf("only %d leaves were asked", count)
	}
}

// TestLeafOutIsOneSideAfterTheOther compares what leaves to both sides with what leaves to one of them.
func TestLeafOutIsOneSideAfterTheOther(t *testing.T) {
	for _, mass := range []int{1, 4, 7, 1000, 9999999} {
		for _, tracer := range []int{0, 1, mass + 1, 999*mass + 1, 1000 * mass} {
			for _, right := range []int{0, 1, mass / 4, mass / 2, mass} {
				for _, left := range []int{0, (mass - right) / 3, mass - right} {
					toTheRight, toTheLeft := impl.LeafOut(tracer, mass, right, left)
					alone, none := impl.LeafOut(tracer, mass, right, 0)
					no, together := impl.LeafOut(tracer, mass, 0, right+left)
					if toTheRight != alone || none != 0 || no != 0 || toTheRight+toTheLeft != together {
						t.Fatalf("LeafOut(%d, %d, %d, %d) = %d, %d; the right alone gives %d, %d, and both to the left %d, %d", tracer, mass, right, left, toTheRight, toTheLeft, alone, none, no, together)
					}
				}
			}
		}
	}
}

// plainTracerFluxes is the oracle of TracerFlux: each flux carries tracer of the side that loses it.
func plainTracerFluxes(p plainState) []int {
	moved := []int{}
	for i, flux := range plainFluxes(p) {
		if flux < 0 {
			moved = append(moved, -exactShare(p.tracer[i+1], -flux, p.mass[i+1]))
		} else {
			moved = append(moved, exactShare(p.tracer[i], flux, p.mass[i]))
		}
	}
	return moved
}

// plainGreatest is the oracle of GreatestShare: it tries the numbers from 0 on.
func plainGreatest(p plainState) int {
	c := 0
	for i := 0; i < len(p.mass); {
		if p.tracer[i] <= c*p.mass[i] {
			i++
		} else {
			c++
		}
	}
	return c
}

// plainLeast is the oracle of LeastShare: it tries the numbers from the greatest share down, and 0 always fits.
func plainLeast(p plainState) int {
	if slices.Max(p.mass) == 0 {
		return 0
	}
	c := 1000
	for i := 0; i < len(p.mass); {
		if p.tracer[i] >= c*p.mass[i] {
			i++
		} else {
			c--
		}
	}
	return c
}

// plainShares is the oracle of ShareAt.
func plainShares(p plainState) []int {
	shares := []int{}
	for i, mass := range p.mass {
		shares = append(shares, exactFloor(1000*p.tracer[i], mass))
	}
	return shares
}

// wantTracerFluxes checks the tracer that flows through each face, and around the first and the last one.
func wantTracerFluxes(t *testing.T, s impl.State, want []int) {
	t.Helper()
	for _, i := range indicesAround(len(s.Mass)) {
		if got := impl.TracerFlux(s, i); got != valueAt(want, i) {
			t.Fatalf("TracerFlux of %q, %v, at %d is %d; want %d", impl.FormatMesh(s.Mesh), s, i, got, valueAt(want, i))
		}
	}
}

// wantShares checks the shares of a state, and of each leaf and around the first and the last one.
func wantShares(t *testing.T, s impl.State, greatest int, least int, shares []int) {
	t.Helper()
	text := impl.FormatMesh(s.Mesh)
	if got := impl.GreatestShare(s); got != greatest {
		t.Fatalf("GreatestShare of %q, %v, is %d; want %d", text, s, got, greatest)
	}
	if got := impl.LeastShare(s); got != least {
		t.Fatalf("LeastShare of %q, %v, is %d; want %d", text, s, got, least)
	}
	for _, i := range indicesAround(len(s.Mass)) {
		if got := impl.ShareAt(s, i); got != valueAt(shares, i) {
			t.Fatalf("ShareAt of %q, %v, at %d is %d; want %d", text, s, i, got, valueAt(shares, i))
		}
	}
}

// wantPlainTransport compares each function with its oracle.
func wantPlainTransport(t *testing.T, p plainState, byText map[string]rootShape) {
	t.Helper()
	s := p.state(t, byText)
	wantTracerFluxes(t, s, plainTracerFluxes(p))
	wantShares(t, s, plainGreatest(p), plainLeast(p), plainShares(p))
}

// wantNoTransport checks what each function says of a state that is not valid.
func wantNoTransport(t *testing.T, s impl.State) {
	t.Helper()
	for _, i := range []int{-1, 0, 1, 2, 3, len(s.Mesh.Leaves) - 2, len(s.Mesh.Leaves) - 1, len(s.Mesh.Leaves), len(s.Mass) - 1, len(s.Mass), len(s.Tracer) - 1, len(s.Tracer), math.MinInt, math.MaxInt} {
		if flux, share := impl.TracerFlux(s, i), impl.ShareAt(s, i); flux != 0 || share != 0 {
			t.Fatalf("TracerFlux and ShareAt of %v at %d are %d and %d; want 0", s, i, flux, share)
		}
	}
	if greatest, least := impl.GreatestShare(s), impl.LeastShare(s); greatest != 0 || least != 0 {
		t.Fatalf("GreatestShare and LeastShare of %v are %d and %d; want 0", s, greatest, least)
	}
}

type tracerFluxCase struct {
	name         string
	text         string
	mass, tracer []int
	bed          []int
	want         []int
}

// TestTracerFlux checks the tracer that flows in each case, and in the channel that is seen from the other side.
func TestTracerFlux(t *testing.T) {
	byText := shapesByText()
	for _, c := range tracerFluxCases() {
		t.Run(c.name, func(t *testing.T) {
			p := plainState{c.text, c.mass, c.tracer, c.bed}
			s := p.state(t, byText)
			wantTotals(t, s)
			wantTracerFluxes(t, s, c.want)
			wantTracerFluxes(t, mirroredPlain(p).state(t, byText), negatedFromTheEnd(c.want))
		})
	}
}

// tracerFluxCases returns states whose fluxes of mass are known from TestFluxesOfOneLevel and the tests after it.
func tracerFluxCases() []tracerFluxCase {
	flat, high, steep := []int{0, 0}, []int{1000000, 0}, []int{0, 1000000}
	numbers := func(n ...int) []int { return n }
	return []tracerFluxCase{
		{"a flux of 8 and one of 0", "122", numbers(400, 0, 7), numbers(1000, 0, 21), numbers(0), numbers(20, 0)},
		{"into the coarser leaf, and away from it", "122", numbers(0, 200, 0), numbers(0, 1000, 0), numbers(0), numbers(-40, 60)},
		{"a quarter to the right", "0|0", numbers(400, 0), numbers(1000, 0), high, numbers(250)},
		{"a quarter to the left", "0|0", numbers(0, 400), numbers(0, 1000), steep, numbers(-250)},
		{"a quarter of a leaf that four does not divide", "0|0", numbers(7, 0), numbers(70, 0), high, numbers(10)},
		{"to the right, rounded down by a quarter", "0|0", numbers(400, 0), numbers(1001, 0), high, numbers(250)},
		{"to the right, rounded down by three quarters", "0|0", numbers(400, 0), numbers(1003, 0), high, numbers(250)},
		{"to the left, rounded up by a quarter", "0|0", numbers(0, 400), numbers(0, 1001), steep, numbers(-250)},
		{"to the left, rounded up by three quarters", "0|0", numbers(0, 400), numbers(0, 1003), steep, numbers(-250)},
		{"the greatest share to the right", "0|0", numbers(400, 0), numbers(400000, 0), high, numbers(100000)},
		{"the greatest share to the left", "0|0", numbers(0, 400), numbers(0, 400000), steep, numbers(-100000)},
		{"one unit less than the greatest share to the right", "0|0", numbers(400, 0), numbers(399999, 0), high, numbers(99999)},
		{"no tracer on the left, and the greatest share on the right, to the right", "0|0", numbers(400, 12), numbers(0, 12000), high, numbers(0)},
		{"no tracer on the left, and the greatest share on the right, to the left", "0|0", numbers(12, 400), numbers(0, 400000), steep, numbers(-100000)},
		{"the greatest share on the left, and no tracer on the right, to the right", "0|0", numbers(400, 12), numbers(400000, 0), high, numbers(100000)},
		{"the greatest share on the left, and no tracer on the right, to the left", "0|0", numbers(12, 400), numbers(12000, 0), steep, numbers(0)},
		{"the greatest share on both sides", "0|0", numbers(400, 12), numbers(400000, 12000), high, numbers(100000)},
		{"tracer on both sides of equal surfaces", "0|0", numbers(500, 500), numbers(500000, 7), flat, numbers(0)},
		{"tracer on both sides of a flux that is rounded to 0", "0|0", numbers(563, 500), numbers(563000, 500000), flat, numbers(0)},
		{"a flux of 1 that takes nothing", "0|0", numbers(564, 500), numbers(563, 500), flat, numbers(0)},
		{"a flux of 1 that takes 1", "0|0", numbers(564, 500), numbers(564, 500), flat, numbers(1)},
		{"a flux of -1 that takes nothing", "0|0", numbers(500, 564), numbers(500, 563), flat, numbers(0)},
		{"a flux of -1 that takes 1", "0|0", numbers(500, 564), numbers(500, 564), flat, numbers(-1)},
		{"a mass of 3, which stays with its tracer", "0|0", numbers(3, 500), numbers(3000, 0), high, numbers(0)},
		{"a mass of 4, of which 1 flows", "0|0", numbers(4, 9), numbers(4000, 0), high, numbers(1000)},
		{"two dry leaves", "0|0", numbers(0, 0), numbers(0, 0), high, numbers(0)},
		{"the faces of the level 2", "2222", numbers(500, 100, 100, 116), numbers(1000, 5, 5, 232), numbers(7), numbers(50, 0, -2)},
		{"away from the first and the last leaf", "0|0|0", numbers(500, 0, 500), numbers(1000, 0, 500), numbers(140, 0, 140), numbers(20, -10)},
		{"a leaf that loses something to both sides, each time as if to one", "0|0|0", numbers(0, 402, 0), numbers(0, 201, 0), numbers(0, 1000000, 0), numbers(-50, 50)},
		{"between two roots of different levels", "0|11", numbers(0, 400, 0), numbers(0, 200, 0), flat, numbers(-4, 6)},
		{"the greatest mass in the deepest level", "12344|44321", numbers(0, 0, 0, 0, 10000000, 0, 0, 0, 0, 0), numbers(0, 0, 0, 0, 10000000000, 0, 0, 0, 0, 0), high, numbers(0, 0, 0, -2500000000, 2500000000, 0, 0, 0, 0)},
		{"one unit of tracer less in the deepest level", "12344|44321", numbers(0, 0, 0, 0, 10000000, 0, 0, 0, 0, 0), numbers(0, 0, 0, 0, 9999999999, 0, 0, 0, 0, 0), high, numbers(0, 0, 0, -2499999999, 2499999999, 0, 0, 0, 0)},
		{"one leaf", "0", numbers(500), numbers(500), numbers(9), numbers()},
	}
}

type shareCase struct {
	name            string
	text            string
	mass, tracer    []int
	greatest, least int
	shares          []int
}

func wantShareCases(t *testing.T, cases []shareCase) {
	t.Helper()
	byText := shapesByText()
	beds := []int{7, 0, 1000000, 3, 40, 5, 600, 1}
	for _, c := range cases {
		t.Run(c.name, func(t *testing.T) {
			m := meshWithText(t, c.text, byText)
			s := impl.State{Mesh: m, Mass: c.mass, Tracer: c.tracer, Bed: beds[:m.Roots]}
			wantTotals(t, s)
			wantShares(t, s, c.greatest, c.least, c.shares)
		})
	}
}

func TestSharesOfOneLeaf(t *testing.T) {
	numbers := func(n ...int) []int { return n }
	wantShareCases(t, []shareCase{
		{"no mass", "0", numbers(0), numbers(0), 0, 0, numbers(0)},
		{"no tracer", "0", numbers(4), numbers(0), 0, 0, numbers(0)},
		{"a division that is exact", "0", numbers(4), numbers(12), 3, 3, numbers(3000)},
		{"one unit more", "0", numbers(4), numbers(13), 4, 3, numbers(3250)},
		{"one unit less", "0", numbers(4), numbers(11), 3, 2, numbers(2750)},
		{"a half", "0", numbers(4), numbers(10), 3, 2, numbers(2500)},
		{"a third", "0", numbers(3), numbers(1), 1, 0, numbers(333)},
		{"two thirds", "0", numbers(3), numbers(2), 1, 0, numbers(666)},
		{"thousandths that are rounded down", "0", numbers(7), numbers(22), 4, 3, numbers(3142)},
		{"just less than one thousandth", "0", numbers(1001), numbers(1), 1, 0, numbers(0)},
		{"one thousandth", "0", numbers(1000), numbers(1), 1, 0, numbers(1)},
		{"one unit of tracer less than the mass", "0", numbers(1000), numbers(999), 1, 0, numbers(999)},
		{"as much tracer as mass", "0", numbers(1000), numbers(1000), 1, 1, numbers(1000)},
		{"one unit of tracer more than the mass", "0", numbers(1000), numbers(1001), 2, 1, numbers(1001)},
		{"a mass of 1 without tracer", "0", numbers(1), numbers(0), 0, 0, numbers(0)},
		{"a mass of 1 with tracer of 1", "0", numbers(1), numbers(1), 1, 1, numbers(1000)},
		{"a mass of 1 with the greatest share", "0", numbers(1), numbers(1000), 1000, 1000, numbers(1000000)},
		{"one unit less than the greatest share", "0", numbers(4), numbers(3999), 1000, 999, numbers(999750)},
		{"the greatest mass and tracer", "0", numbers(10000000), numbers(10000000000), 1000, 1000, numbers(1000000)},
		{"the greatest mass, and one unit of tracer less", "0", numbers(10000000), numbers(9999999999), 1000, 999, numbers(999999)},
		{"the greatest mass and tracer of 1", "0", numbers(10000000), numbers(1), 1, 0, numbers(0)},
		{"the greatest mass without tracer", "0", numbers(10000000), numbers(0), 0, 0, numbers(0)},
	})
}

func TestSharesOfSeveralLeaves(t *testing.T) {
	numbers := func(n ...int) []int { return n }
	wantShareCases(t, []shareCase{
		{"the given example", "122", numbers(400, 0, 7), numbers(1000, 0, 21), 3, 2, numbers(2500, 0, 3000)},
		{"the greatest share, exact, in the first leaf", "122", numbers(4, 5, 6), numbers(36, 35, 30), 9, 5, numbers(9000, 7000, 5000)},
		{"the greatest share, exact, between others", "122", numbers(5, 4, 6), numbers(35, 36, 30), 9, 5, numbers(7000, 9000, 5000)},
		{"the greatest share, exact, in the last leaf", "122", numbers(5, 6, 4), numbers(35, 30, 36), 9, 5, numbers(7000, 5000, 9000)},
		{"the greatest share, rounded up, in the first leaf", "122", numbers(4, 5, 6), numbers(33, 35, 30), 9, 5, numbers(8250, 7000, 5000)},
		{"the greatest share, rounded up, between others", "122", numbers(5, 4, 6), numbers(35, 33, 30), 9, 5, numbers(7000, 8250, 5000)},
		{"the greatest share, rounded up, in the last leaf", "122", numbers(5, 6, 4), numbers(35, 30, 33), 9, 5, numbers(7000, 5000, 8250)},
		{"the least share, exact, in the first leaf", "122", numbers(4, 5, 6), numbers(8, 35, 30), 7, 2, numbers(2000, 7000, 5000)},
		{"the least share, exact, in the last leaf", "122", numbers(5, 6, 4), numbers(35, 30, 8), 7, 2, numbers(7000, 5000, 2000)},
		{"the least share, rounded down, in the first leaf", "122", numbers(4, 5, 6), numbers(11, 35, 30), 7, 2, numbers(2750, 7000, 5000)},
		{"the least share, rounded down, between others", "122", numbers(5, 4, 6), numbers(35, 11, 30), 7, 2, numbers(7000, 2750, 5000)},
		{"the least share, rounded down, in the last leaf", "122", numbers(5, 6, 4), numbers(35, 30, 11), 7, 2, numbers(7000, 5000, 2750)},
		{"two shares that are rounded to one number", "11", numbers(3, 7), numbers(10, 27), 4, 3, numbers(3333, 3857)},
		{"the same share everywhere", "2222", numbers(1, 2, 3, 4), numbers(5, 10, 15, 20), 5, 5, numbers(5000, 5000, 5000, 5000)},
		{"the greatest share everywhere", "2222", numbers(1, 2, 3, 4), numbers(1000, 2000, 3000, 4000), 1000, 1000, numbers(1000000, 1000000, 1000000, 1000000)},
		{"more tracer in a leaf of a smaller share", "11", numbers(1000, 1), numbers(2000, 9), 9, 2, numbers(2000, 9000)},
		{"a first leaf without mass", "122", numbers(0, 4, 7), numbers(0, 13, 35), 5, 3, numbers(0, 3250, 5000)},
		{"a leaf without mass between others", "122", numbers(4, 0, 7), numbers(13, 0, 35), 5, 3, numbers(3250, 0, 5000)},
		{"a last leaf without mass", "122", numbers(4, 7, 0), numbers(13, 35, 0), 5, 3, numbers(3250, 5000, 0)},
		{"one leaf with mass", "0|0|0", numbers(0, 2, 0), numbers(0, 13, 0), 7, 6, numbers(0, 6500, 0)},
		{"a first leaf without tracer", "122", numbers(1, 4, 7), numbers(0, 13, 35), 5, 0, numbers(0, 3250, 5000)},
		{"a last leaf without tracer", "122", numbers(4, 7, 1), numbers(13, 35, 0), 5, 0, numbers(3250, 5000, 0)},
		{"all masses 0", "122", numbers(0, 0, 0), numbers(0, 0, 0), 0, 0, numbers(0, 0, 0)},
		{"all tracers 0", "122", numbers(4, 1, 10), numbers(0, 0, 0), 0, 0, numbers(0, 0, 0)},
		{"all tracers 0, and leaves without mass", "0|11", numbers(0, 1, 0), numbers(0, 0, 0), 0, 0, numbers(0, 0, 0)},
		{"the last root of eight", "0|0|0|0|0|0|0|0", numbers(1, 1, 1, 1, 1, 1, 1, 2), numbers(4, 4, 4, 4, 4, 4, 4, 11), 6, 4, numbers(4000, 4000, 4000, 4000, 4000, 4000, 4000, 5500)},
		{"a unit of tracer beside the greatest share", "0|0", numbers(9999999, 1), numbers(1, 1000), 1000, 0, numbers(0, 1000000)},
	})
}

// TestTransportOfKnownStates compares each function with its oracle, on states of all shapes.
func TestTransportOfKnownStates(t *testing.T) {
	byText := shapesByText()
	for _, p := range fluxPlains() {
		wantPlainTransport(t, p, byText)
		wantPlainTransport(t, brewedPlain(p), byText)
	}
	for _, s := range baseStates(t) {
		wantPlainTransport(t, plainState{impl.FormatMesh(s.Mesh), s.Mass, s.Tracer, s.Bed}, byText)
	}
}

// brewedPlain returns a state with the masses of another one, whose shares lie between 6 and 9.
func brewedPlain(p plainState) plainState {
	brewed := plainState{text: p.text, mass: p.mass, bed: p.bed}
	for i, mass := range p.mass {
		brewed.tracer = append(brewed.tracer, 6*mass+(i%7)*mass/2)
	}
	return brewed
}

// wantNoOtherShares checks that a state is valid, has the totals of the one before it, and no share out of its range.
func wantNoOtherShares(t *testing.T, before impl.State, after impl.State) {
	t.Helper()
	wantTotals(t, after)
	if impl.TotalMass(after) != impl.TotalMass(before) || impl.TotalTracer(after) != impl.TotalTracer(before) {
		t.Fatalf("the totals of %v and %v differ", before, after)
	}
	if impl.GreatestShare(after) > impl.GreatestShare(before) || impl.LeastShare(after) < impl.LeastShare(before) {
		t.Fatalf("the shares of %v lie between %d and %d; those of %v before it between %d and %d", after, impl.LeastShare(after), impl.GreatestShare(after), before, impl.LeastShare(before), impl.GreatestShare(before))
	}
}

// TestSharesStayInTheirRange states the promise for whole states: what flows through one face, and what flows through
// all faces at once, brings no share out of the range of those before.
func TestSharesStayInTheirRange(t *testing.T) {
	byText := shapesByText()
	moved, both := 0, 0
	for _, p := range fluxPlains() {
		for _, s := range []impl.State{p.state(t, byText), brewedPlain(p).state(t, byText)} {
			fluxes := impl.AllFluxes(s)
			for i, flux := range fluxes {
				after := copyOfState(s)
				after.Mass[i] -= flux
				after.Mass[i+1] += flux
				after.Tracer[i] -= impl.TracerFlux(s, i)
				after.Tracer[i+1] += impl.TracerFlux(s, i)
				wantNoOtherShares(t, s, after)
				if impl.TracerFlux(s, i) != 0 {
					moved++
				}
			}
			after, twice := throughAllFaces(s, fluxes)
			wantNoOtherShares(t, s, after)
			both += twice
		}
	}
	if moved < 1000 || both < 1000 {
		t.Errorf("tracer moves only %d times, and %d times from a leaf to both sides", moved, both)
	}
}

// throughAllFaces moves each flux with what LeafOut gives of its tracer, and counts the leaves that lose tracer to both sides.
func throughAllFaces(s impl.State, fluxes []int) (impl.State, int) {
	after, both := copyOfState(s), 0
	for i := range s.Mass {
		right, left := max(0, valueAt(fluxes, i)), max(0, -valueAt(fluxes, i-1))
		toTheRight, toTheLeft := impl.LeafOut(s.Tracer[i], s.Mass[i], right, left)
		after.Mass[i] -= right + left
		after.Tracer[i] -= toTheRight + toTheLeft
		if right > 0 {
			after.Mass[i+1] += right
			after.Tracer[i+1] += toTheRight
		}
		if left > 0 {
			after.Mass[i-1] += left
			after.Tracer[i-1] += toTheLeft
		}
		if toTheRight > 0 && toTheLeft > 0 {
			both++
		}
	}
	return after, both
}

// TestTracerFluxIsThatOfALeafWithOneActiveFace compares TracerFlux with LeafOut of the leaf that loses something.
func TestTracerFluxIsThatOfALeafWithOneActiveFace(t *testing.T) {
	byText := shapesByText()
	for _, p := range fluxPlains() {
		s := p.state(t, byText)
		for i, flux := range impl.AllFluxes(s) {
			toTheRight, _ := impl.LeafOut(s.Tracer[i], s.Mass[i], max(0, flux), 0)
			_, toTheLeft := impl.LeafOut(s.Tracer[i+1], s.Mass[i+1], 0, max(0, -flux))
			if got := impl.TracerFlux(s, i); got != toTheRight-toTheLeft {
				t.Fatalf("TracerFlux(%v, %d) = %d; LeafOut gives %d to the right and %d to the left", s, i, got, toTheRight, toTheLeft)
			}
		}
	}
}

// TestTransportFromTheOtherSide compares a channel with the same channel seen from the other side.
func TestTransportFromTheOtherSide(t *testing.T) {
	byText := shapesByText()
	for _, p := range balancedPlains() {
		mirrored := mirroredPlain(p).state(t, byText)
		wantTracerFluxes(t, mirrored, negatedFromTheEnd(plainTracerFluxes(p)))
		wantShares(t, mirrored, plainGreatest(p), plainLeast(p), fromTheEnd(plainShares(p)))
	}
}

// TestSharesDoNotDependOnMeshAndBed looks at the same masses and tracers in other cells and over other beds.
func TestSharesDoNotDependOnMeshAndBed(t *testing.T) {
	byText := shapesByText()
	mass, tracer := []int{4, 0, 7, 9}, []int{13, 0, 50, 81}
	for _, text := range []string{"2222", "1233", "3321", "0|0|0|0", "11|11", "122|0", "0|122", "11|0|0"} {
		for _, bed := range []int{0, 1, 1000000} {
			p := plainState{text, mass, tracer, slices.Repeat([]int{bed}, len(text)-len(leafDigits(text))+1)}
			if textUneven(text) >= 0 {
				wantNoTransport(t, p.state(t, byText))
				continue
			}
			wantShares(t, p.state(t, byText), 9, 3, []int{3250, 0, 7142, 9000})
		}
	}
}

// richPlains returns states through each face of which tracer flows, and in each leaf of which there is tracer.
func richPlains() []plainState {
	var states []plainState
	for _, p := range steepPlains() {
		rich := brewedPlain(p)
		states = append(states, rich, mirroredPlain(rich))
	}
	return states
}

func TestRichStates(t *testing.T) {
	byText := shapesByText()
	for _, p := range richPlains() {
		wantPlainTransport(t, p, byText)
		if slices.Contains(plainTracerFluxes(p), 0) || slices.Contains(plainShares(p), 0) || plainLeast(p) < 6 {
			t.Errorf("%v is not rich: its fluxes of tracer are %v, and its shares %v", p, plainTracerFluxes(p), plainShares(p))
		}
	}
}

func TestTransportAtExtremeIndices(t *testing.T) {
	byText := shapesByText()
	states := baseStates(t)
	for _, p := range richPlains() {
		states = append(states, p.state(t, byText))
	}
	for _, s := range states {
		for _, i := range append(extremeInts(), extremeCellNumbers()...) {
			if got := impl.TracerFlux(s, i); (i < 0 || i >= len(s.Mass)-1) && got != 0 {
				t.Errorf("TracerFlux(%v, %d) = %d; want 0", s, i, got)
			}
			if got := impl.ShareAt(s, i); (i < 0 || i >= len(s.Mass)) && got != 0 {
				t.Errorf("ShareAt(%v, %d) = %d; want 0", s, i, got)
			}
		}
	}
}

func TestTransportInInvalidStates(t *testing.T) {
	for s := range invalidStates(t) {
		wantNoTransport(t, s)
	}
	for _, s := range almostValidStates(t) {
		wantNoTransport(t, s)
	}
}

// TestTransportInRichStatesThatAreNotValid has states of which one list is spoilt, in whose other leaves there is tracer.
func TestTransportInRichStatesThatAreNotValid(t *testing.T) {
	byText := shapesByText()
	for _, p := range richPlains() {
		for spoilt := range spoiltStates(p.state(t, byText)) {
			wantNoTransport(t, spoilt)
		}
	}
}

// TestTransportInRichStatesThatAreAlmostValid has one number that is out of its range by one unit.
func TestTransportInRichStatesThatAreAlmostValid(t *testing.T) {
	byText := shapesByText()
	for _, p := range richPlains() {
		s := p.state(t, byText)
		for i, mass := range s.Mass {
			for _, c := range []blend{{1000*mass + 1, mass}, {-1, mass}, {0, -1}, {-1, 0}, {1, 0}, {1, 10000001 - impl.TotalMass(s) + mass}} {
				almost := copyOfState(s)
				almost.Mass[i], almost.Tracer[i] = c.mass, c.tracer
				wantNoTransport(t, almost)
			}
		}
		for root := range s.Bed {
			for _, bed := range []int{-1, 1000001} {
				almost := copyOfState(s)
				almost.Bed[root] = bed
				wantNoTransport(t, almost)
			}
		}
	}
}

// TestTransportChangesNothing calls each function with spare capacity behind the lists, which must not count.
func TestTransportChangesNothing(t *testing.T) {
	byText := shapesByText()
	states := append(baseStates(t), unevenStates(t)...)
	for _, p := range richPlains() {
		states = append(states, p.state(t, byText))
	}
	for _, s := range states {
		given := withSpare(s)
		before := copyOfState(withAll(given))
		greatest, least := impl.GreatestShare(given), impl.LeastShare(given)
		for i := -1; i <= len(s.Mass); i++ {
			if flux, share := impl.TracerFlux(given, i), impl.ShareAt(given, i); flux != impl.TracerFlux(s, i) || share != impl.ShareAt(s, i) {
				t.Errorf("TracerFlux and ShareAt of %v at %d are %d and %d with spare capacity", s, i, flux, share)
			}
		}
		if greatest != impl.GreatestShare(s) || least != impl.LeastShare(s) {
			t.Errorf("GreatestShare and LeastShare of %v are %d and %d with spare capacity", s, greatest, least)
		}
		if !sameAsState(withAll(given), before) {
			t.Errorf("the state %v has been changed: %v", before, withAll(given))
		}
	}
}
