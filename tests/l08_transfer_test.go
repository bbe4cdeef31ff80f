package tests

import (
	"math"
	"math/big"
	"slices"
	"testing"

	"loop.example/g00982/impl"
)

// exactShare is the oracle of ShareOut, in arithmetic without limits.
func exactShare(t int, part int, whole int) int {
	most := new(big.Int).Mul(big.NewInt(1000), big.NewInt(int64(whole)))
	if whole < 1 || whole > 10000000 || part < 0 || part > whole || t < 0 || big.NewInt(int64(t)).Cmp(most) > 0 {
		return 0
	}
	product := new(big.Int).Mul(big.NewInt(int64(t)), big.NewInt(int64(part)))
	return bigFloor(product, big.NewInt(int64(whole)))
}

func wantShare(t *testing.T, tracer int, part int, whole int, want int) {
	t.Helper()
	if got := impl.ShareOut(tracer, part, whole); got != want {
		t.Fatalf("ShareOut(%d, %d, %d) = %d; want %d", tracer, part, whole, got, want)
	}
}

func TestShareOut(t *testing.T) {
	cases := []struct {
		name           string
		t, part, whole int
		want           int
	}{
		{"a quotient that is rounded down", 10, 1, 3, 3},
		{"a quotient just below the next number", 11, 1, 3, 3},
		{"a quotient without a rest", 12, 1, 3, 4},
		{"a half, which is rounded down", 1, 1, 2, 0},
		{"more than a half, which is rounded down", 10, 2, 3, 6},
		{"a quotient below 1", 1, 3, 4, 0},
		{"no whole", 0, 0, 0, 0},
		{"no whole, and tracer", 1, 0, 0, 0},
		{"a part of no whole", 0, 1, 0, 0},
		{"a whole below 0", 0, 0, -1, 0},
		{"all numbers below 0", -1000, -1, -1, 0},
		{"a whole of 1", 1000, 1, 1, 1000},
		{"no part of a whole of 1", 1000, 0, 1, 0},
		{"the greatest whole and tracer", 10000000000, 9999999, 10000000, 9999999000},
		{"the greatest whole, tracer and part", 10000000000, 10000000, 10000000, 10000000000},
		{"a whole one unit above the greatest", 10000001, 1, 10000001, 0},
		{"a whole one unit above the greatest, and the greatest part", 1000, 10000001, 10000001, 0},
		{"a part of 0", 3000, 0, 3, 0},
		{"a part of the whole", 2999, 3, 3, 2999},
		{"a part one unit below 0", 3000, -1, 3, 0},
		{"a part one unit above the whole", 10, 4, 3, 0},
		{"a part one unit below the whole", 10, 3, 4, 7},
		{"no tracer", 0, 2, 3, 0},
		{"tracer of exactly the greatest share", 3000, 2, 3, 2000},
		{"one unit of tracer more", 3001, 2, 3, 0},
		{"one unit of tracer less", 2999, 2, 3, 1999},
		{"one unit of tracer below 0", -1, 2, 3, 0},
		{"a whole whose product with the greatest share becomes 0", 0, 1, 1 << 61, 0},
		{"a part whose product with the tracer does not fit", 1000, 1 << 61, 1, 0},
		{"the greatest numbers", math.MaxInt, math.MaxInt, math.MaxInt, 0},
		{"the least numbers", math.MinInt, math.MinInt, math.MinInt, 0},
	}
	for _, c := range cases {
		if got := impl.ShareOut(c.t, c.part, c.whole); got != c.want {
			t.Errorf("%s: ShareOut(%d, %d, %d) = %d; want %d", c.name, c.t, c.part, c.whole, got, c.want)
		}
	}
}

// TestShareOutAtItsLimits asks around the limits of each number and at the extremes of an int.
func TestShareOutAtItsLimits(t *testing.T) {
	for _, whole := range append(extremeInts(), 4999999, 9999998, 9999999, 10000000, 10000001) {
		for _, part := range append(extremeInts(), whole/2, whole-1, whole, whole+1) {
			for _, tracer := range append(extremeInts(), 1000*whole-1, 1000*whole, 1000*whole+1, 500*whole+1) {
				wantShare(t, tracer, part, whole, exactShare(tracer, part, whole))
			}
		}
	}
}

// TestShareOutOfSmallNumbers asks for all small wholes and parts, and checks that neither the part nor what stays has
// a share above the greatest one.
func TestShareOutOfSmallNumbers(t *testing.T) {
	for whole := -1; whole <= 12; whole++ {
		for part := -2; part <= whole+2; part++ {
			for tracer := -2; tracer <= 1000*whole+2; tracer++ {
				got := impl.ShareOut(tracer, part, whole)
				wantShare(t, tracer, part, whole, exactShare(tracer, part, whole))
				if whole < 1 || part < 0 || part > whole || tracer < 0 || tracer > 1000*whole {
					continue
				}
				if got < 0 || got > 1000*part || tracer-got < 0 || tracer-got > 1000*(whole-part) {
					t.Fatalf("of %d in %d, ShareOut gives %d to a part of %d", tracer, whole, got, part)
				}
			}
		}
	}
}

// A plainState is a state whose mesh is a text, so that the oracles below need not know cells.
type plainState struct {
	text         string
	mass, tracer []int
	bed          []int
}

func (p plainState) state(t *testing.T, byText map[string]rootShape) impl.State {
	t.Helper()
	return impl.State{Mesh: meshWithText(t, p.text, byText), Mass: p.mass, Tracer: p.tracer, Bed: p.bed}
}

// replaced returns a list in which a number of elements, from the one with the index i, is replaced by others.
func replaced(list []int, i int, count int, others ...int) []int {
	return slices.Concat(list[:i], others, list[i+count:])
}

// splitPlain is the oracle of one refinement, without regard to balance.
func splitPlain(p plainState, i int) (plainState, bool) {
	text, ok := refinedText(p.text, i)
	if !ok {
		return plainState{}, false
	}
	left, leftTracer := (p.mass[i]+1)/2, 0
	if p.mass[i] > 0 {
		leftTracer = exactShare(p.tracer[i], left, p.mass[i])
	}
	mass := replaced(p.mass, i, 1, left, p.mass[i]-left)
	return plainState{text, mass, replaced(p.tracer, i, 1, leftTracer, p.tracer[i]-leftTracer), p.bed}, true
}

func refinedPlain(p plainState, i int) (plainState, bool) {
	finer, ok := splitPlain(p, i)
	return finer, ok && textUneven(finer.text) < 0
}

// coarserDigit returns the index of the leaf with the smaller digit, of the leaves i and i+1.
func coarserDigit(text string, i int) int {
	places := leafDigits(text)
	if text[places[i]] < text[places[i+1]] {
		return i
	}
	return i + 1
}

func balanceRefinedPlain(p plainState, i int) (plainState, bool) {
	finer, ok := splitPlain(p, i)
	if !ok {
		return plainState{}, false
	}
	// The face of an uneven pair of digits has the index of its left leaf.
	for at := textUneven(finer.text); at >= 0; at = textUneven(finer.text) {
		finer, ok = splitPlain(finer, coarserDigit(finer.text, at))
		if !ok {
			panic("a leaf of the deepest level is the coarser one of two")
		}
	}
	return finer, true
}

func coarsenedPlain(p plainState, i int, byText map[string]rootShape) (plainState, bool) {
	text, ok := coarsenedText(p.text, i, byText)
	if !ok {
		return plainState{}, false
	}
	mass := replaced(p.mass, i, 2, p.mass[i]+p.mass[i+1])
	return plainState{text, mass, replaced(p.tracer, i, 2, p.tracer[i]+p.tracer[i+1]), p.bed}, true
}

// A transfer is one of the three changes of a state, with its oracle.
type transfer struct {
	name   string
	change func(s impl.State, i int) (impl.State, bool)
	oracle func(p plainState, i int) (plainState, bool)
}

func transfers(byText map[string]rootShape) []transfer {
	coarsened := func(p plainState, i int) (plainState, bool) { return coarsenedPlain(p, i, byText) }
	return []transfer{
		{name: "RefineState", change: impl.RefineState, oracle: refinedPlain},
		{name: "CoarsenState", change: impl.CoarsenState, oracle: coarsened},
		{name: "BalanceRefine", change: impl.BalanceRefine, oracle: balanceRefinedPlain},
	}
}

// wantTransfer checks a change of the leaf i of a state, which must give the state want, or be refused if ok is false.
func wantTransfer(t *testing.T, c transfer, s impl.State, i int, want impl.State, ok bool) {
	t.Helper()
	if !ok {
		want = s
	}
	got, done := c.change(s, i)
	if done != ok || !sameAsState(got, want) {
		t.Fatalf("%s of %q, %v, at %d gives %q, %v, %v; want %v, %v", c.name, impl.FormatMesh(s.Mesh), s, i, impl.FormatMesh(got.Mesh), got, done, want, ok)
	}
}

// wantNoTransfers checks that a state that is not valid is refused and returned unchanged at each index.
func wantNoTransfers(t *testing.T, s impl.State) {
	t.Helper()
	for _, c := range transfers(nil) {
		for _, i := range []int{-1, 0, 1, 2, 3, len(s.Mesh.Leaves) - 2, len(s.Mesh.Leaves) - 1, len(s.Mesh.Leaves), len(s.Mass), math.MinInt, math.MaxInt} {
			wantTransfer(t, c, s, i, impl.State{}, false)
		}
	}
}

type transferCase struct {
	name         string
	text         string
	mass, tracer []int
	i            int
	wantText     string // "" if the change is refused
	wantMass     []int
	wantTracer   []int
}

func wantTransferCases(t *testing.T, name string, cases []transferCase) {
	t.Helper()
	byText := shapesByText()
	all := transfers(byText)
	c := all[slices.IndexFunc(all, func(c transfer) bool { return c.name == name })]
	beds := []int{7, 0, 1000000, 3, 40, 5, 600, 1}
	for _, k := range cases {
		t.Run(k.name, func(t *testing.T) {
			m := meshWithText(t, k.text, byText)
			s := impl.State{Mesh: m, Mass: k.mass, Tracer: k.tracer, Bed: beds[:m.Roots]}
			want := impl.State{}
			if k.wantText != "" {
				want = impl.State{Mesh: meshWithText(t, k.wantText, byText), Mass: k.wantMass, Tracer: k.wantTracer, Bed: beds[:m.Roots]}
			}
			wantTotals(t, s)
			wantTransfer(t, c, s, k.i, want, k.wantText != "")
		})
	}
}

// divisionCases returns states of one leaf that is refined, and what its children receive.
func divisionCases() []transferCase {
	return []transferCase{
		{"an empty leaf", "0", []int{0}, []int{0}, 0, "11", []int{0, 0}, []int{0, 0}},
		{"a mass of 1", "0", []int{1}, []int{0}, 0, "11", []int{1, 0}, []int{0, 0}},
		{"a mass of 1 and tracer of 1", "0", []int{1}, []int{1}, 0, "11", []int{1, 0}, []int{1, 0}},
		{"a mass of 1 and the greatest share", "0", []int{1}, []int{1000}, 0, "11", []int{1, 0}, []int{1000, 0}},
		{"an even mass", "0", []int{8}, []int{0}, 0, "11", []int{4, 4}, []int{0, 0}},
		{"an odd mass", "0", []int{7}, []int{0}, 0, "11", []int{4, 3}, []int{0, 0}},
		{"an even mass and an odd tracer", "0", []int{8}, []int{11}, 0, "11", []int{4, 4}, []int{5, 6}},
		{"an even mass and tracer of 1", "0", []int{2}, []int{1}, 0, "11", []int{1, 1}, []int{0, 1}},
		{"an odd mass and tracer of 1", "0", []int{3}, []int{1}, 0, "11", []int{2, 1}, []int{0, 1}},
		{"an odd mass and tracer of 2", "0", []int{3}, []int{2}, 0, "11", []int{2, 1}, []int{1, 1}},
		{"an odd mass and tracer without a rest", "0", []int{7}, []int{21}, 0, "11", []int{4, 3}, []int{12, 9}},
		{"an odd mass and tracer with a rest", "0", []int{7}, []int{10}, 0, "11", []int{4, 3}, []int{5, 5}},
		{"an odd mass and an odd tracer", "0", []int{5}, []int{33}, 0, "11", []int{3, 2}, []int{19, 14}},
		{"an odd mass and the greatest share", "0", []int{7}, []int{7000}, 0, "11", []int{4, 3}, []int{4000, 3000}},
		{"an odd mass and one unit less", "0", []int{7}, []int{6999}, 0, "11", []int{4, 3}, []int{3999, 3000}},
		{"the greatest mass and tracer", "0", []int{10000000}, []int{10000000000}, 0, "11", []int{5000000, 5000000}, []int{5000000000, 5000000000}},
		{"the greatest odd mass and its greatest tracer", "0", []int{9999999}, []int{9999999000}, 0, "11", []int{5000000, 4999999}, []int{5000000000, 4999999000}},
		{"the greatest odd mass and one unit of tracer less", "0", []int{9999999}, []int{9999998999}, 0, "11", []int{5000000, 4999999}, []int{4999999999, 4999999000}},
		{"the greatest mass and tracer of 1", "0", []int{10000000}, []int{1}, 0, "11", []int{5000000, 5000000}, []int{0, 1}},
	}
}

func TestDivisionAmongChildren(t *testing.T) {
	wantTransferCases(t, "RefineState", divisionCases())
	wantTransferCases(t, "BalanceRefine", divisionCases())
}

func TestRefineState(t *testing.T) {
	wantTransferCases(t, "RefineState", []transferCase{
		{"the first leaf", "122", []int{400, 0, 7}, []int{1000, 0, 21}, 0, "2222", []int{200, 200, 0, 7}, []int{500, 500, 0, 21}},
		{"the last leaf", "122", []int{400, 0, 7}, []int{1000, 0, 21}, 2, "1233", []int{400, 0, 4, 3}, []int{1000, 0, 12, 9}},
		{"one before the first leaf", "122", []int{400, 0, 7}, []int{1000, 0, 21}, -1, "", nil, nil},
		{"one past the last leaf", "122", []int{400, 0, 7}, []int{1000, 0, 21}, 3, "", nil, nil},
		{"a leaf in the middle", "2222", []int{1, 7, 3, 4}, []int{5, 10, 7, 8}, 1, "23322", []int{1, 4, 3, 3, 4}, []int{5, 5, 5, 7, 8}},
		{"a root between others", "0|0|0", []int{1, 5, 3}, []int{4, 6, 2}, 1, "0|11|0", []int{1, 3, 2, 3}, []int{4, 3, 3, 2}},
		{"the last root of eight", "0|0|0|0|0|0|0|0", []int{1, 2, 3, 4, 5, 6, 7, 9}, []int{0, 0, 0, 0, 0, 0, 0, 1}, 7, "0|0|0|0|0|0|0|11", []int{1, 2, 3, 4, 5, 6, 7, 5, 4}, []int{0, 0, 0, 0, 0, 0, 0, 0, 1}},
		{"one past the last root of eight", "0|0|0|0|0|0|0|0", []int{1, 2, 3, 4, 5, 6, 7, 9}, []int{0, 0, 0, 0, 0, 0, 0, 1}, 8, "", nil, nil},
		{"a level below the deepest", "1233", []int{1, 1, 1, 9}, []int{1, 1, 1, 8}, 3, "12344", []int{1, 1, 1, 5, 4}, []int{1, 1, 1, 4, 4}},
		{"the deepest level", "12344", []int{1, 1, 1, 9, 9}, []int{1, 1, 1, 8, 9}, 3, "", nil, nil},
		{"the last leaf, of the deepest level", "12344", []int{1, 1, 1, 9, 9}, []int{1, 1, 1, 8, 9}, 4, "", nil, nil},
		{"the first leaf, of the deepest level", "44321", []int{9, 9, 1, 1, 1}, []int{8, 9, 1, 1, 1}, 0, "", nil, nil},
		{"a coarser neighbour on the left", "122", []int{400, 0, 7}, []int{1000, 0, 21}, 1, "", nil, nil},
		{"a coarser neighbour on the right", "221", []int{7, 0, 400}, []int{21, 0, 1000}, 1, "", nil, nil},
		{"a coarser neighbour beyond the border on the left", "0|11", []int{5, 6, 7}, []int{0, 0, 0}, 1, "", nil, nil},
		{"a coarser neighbour beyond the border on the right", "11|0", []int{5, 6, 7}, []int{0, 0, 0}, 1, "", nil, nil},
		{"a finer neighbour beyond the border", "0|11", []int{5, 6, 7}, []int{1, 2, 3}, 0, "11|11", []int{3, 2, 6, 7}, []int{0, 1, 2, 3}},
		{"a coarser neighbour of the level 2", "1233", []int{1, 1, 9, 1}, []int{0, 0, 0, 0}, 2, "", nil, nil},
	})
}

func TestCoarsenState(t *testing.T) {
	wantTransferCases(t, "CoarsenState", []transferCase{
		{"a pair at the right end", "122", []int{400, 0, 7}, []int{1000, 0, 21}, 1, "11", []int{400, 7}, []int{1000, 21}},
		{"a pair at the left end", "221", []int{3, 4, 400}, []int{5, 6, 1000}, 0, "11", []int{7, 400}, []int{11, 1000}},
		{"a pair in the middle", "23322", []int{1, 4, 3, 3, 4}, []int{5, 5, 5, 7, 8}, 1, "2222", []int{1, 7, 3, 4}, []int{5, 10, 7, 8}},
		{"the only pair", "11", []int{3, 4}, []int{3000, 0}, 0, "0", []int{7}, []int{3000}},
		{"a pair of empty leaves", "11", []int{0, 0}, []int{0, 0}, 0, "0", []int{0}, []int{0}},
		{"the greatest shares", "11", []int{3, 4}, []int{3000, 4000}, 0, "0", []int{7}, []int{7000}},
		{"the greatest total and tracer", "11", []int{1, 9999999}, []int{1000, 9999999000}, 0, "0", []int{10000000}, []int{10000000000}},
		{"the finest pair", "12344", []int{1, 2, 3, 4, 5}, []int{5, 4, 3, 2, 1}, 3, "1233", []int{1, 2, 3, 9}, []int{5, 4, 3, 3}},
		{"a pair between other roots", "0|11|0", []int{1, 3, 2, 3}, []int{4, 3, 3, 2}, 1, "0|0|0", []int{1, 5, 3}, []int{4, 6, 2}},
		{"the last root of eight", "0|0|0|0|0|0|0|11", []int{1, 2, 3, 4, 5, 6, 7, 5, 4}, []int{0, 0, 0, 0, 0, 0, 0, 0, 1}, 7, "0|0|0|0|0|0|0|0", []int{1, 2, 3, 4, 5, 6, 7, 9}, []int{0, 0, 0, 0, 0, 0, 0, 1}},
		{"one before the first leaf", "11", []int{3, 4}, []int{0, 0}, -1, "", nil, nil},
		{"the last leaf", "11", []int{3, 4}, []int{0, 0}, 1, "", nil, nil},
		{"one past the last leaf", "11", []int{3, 4}, []int{0, 0}, 2, "", nil, nil},
		{"the last leaf of a channel", "122", []int{400, 0, 7}, []int{1000, 0, 21}, 2, "", nil, nil},
		{"one leaf", "0", []int{3}, []int{0}, 0, "", nil, nil},
		{"leaves of different levels", "122", []int{400, 0, 7}, []int{1000, 0, 21}, 0, "", nil, nil},
		{"leaves of one level that are no siblings", "2222", []int{1, 2, 3, 4}, []int{0, 0, 0, 0}, 1, "", nil, nil},
		{"leaves of one level in two roots", "11|11", []int{1, 2, 3, 4}, []int{0, 0, 0, 0}, 1, "", nil, nil},
		{"two roots", "0|0", []int{1, 2}, []int{0, 0}, 0, "", nil, nil},
		{"a finer neighbour on the left", "23322", []int{1, 4, 3, 3, 4}, []int{5, 5, 5, 7, 8}, 3, "", nil, nil},
		{"a finer neighbour on the right", "22332", []int{1, 4, 3, 3, 4}, []int{5, 5, 5, 7, 8}, 0, "", nil, nil},
		{"a finer neighbour beyond the border on the right", "11|221", []int{1, 4, 3, 3, 4}, []int{5, 5, 5, 7, 8}, 0, "", nil, nil},
		{"a finer neighbour beyond the border on the left", "122|11", []int{1, 4, 3, 3, 4}, []int{5, 5, 5, 7, 8}, 3, "", nil, nil},
	})
}

func TestBalanceRefine(t *testing.T) {
	wantTransferCases(t, "BalanceRefine", []transferCase{
		{"a leaf without a coarser neighbour", "122", []int{400, 0, 7}, []int{1000, 0, 21}, 2, "1233", []int{400, 0, 4, 3}, []int{1000, 0, 12, 9}},
		{"the first leaf", "122", []int{400, 0, 7}, []int{1000, 0, 21}, 0, "2222", []int{200, 200, 0, 7}, []int{500, 500, 0, 21}},
		{"one before the first leaf", "122", []int{400, 0, 7}, []int{1000, 0, 21}, -1, "", nil, nil},
		{"one past the last leaf", "122", []int{400, 0, 7}, []int{1000, 0, 21}, 3, "", nil, nil},
		{"a coarser neighbour on the left", "122", []int{401, 5, 7}, []int{1001, 2, 21}, 1, "22332", []int{201, 200, 3, 2, 7}, []int{501, 500, 1, 1, 21}},
		{"a coarser neighbour on the right", "221", []int{7, 5, 401}, []int{21, 2, 1001}, 1, "23322", []int{7, 3, 2, 201, 200}, []int{21, 1, 1, 501, 500}},
		{"a coarser neighbour beyond the border on the left", "0|11", []int{5, 1, 7}, []int{4999, 1, 0}, 1, "11|221", []int{3, 2, 1, 0, 7}, []int{2999, 2000, 1, 0, 0}},
		{"a coarser neighbour beyond the border on the right", "11|0", []int{7, 1, 5}, []int{0, 1, 4999}, 1, "122|11", []int{7, 1, 0, 3, 2}, []int{0, 1, 0, 2999, 2000}},
		{"a chain over all levels to the left", "0|1233", []int{9, 7, 5, 3, 1}, []int{9000, 10, 3, 1, 1000}, 3, "11|2233443", []int{5, 4, 4, 3, 3, 2, 2, 1, 1}, []int{5000, 4000, 5, 5, 1, 2, 0, 1, 1000}},
		{"a chain over all levels to the right", "3321|0", []int{1, 3, 5, 7, 9}, []int{1000, 1, 3, 10, 9000}, 1, "3443322|11", []int{1, 2, 1, 3, 2, 4, 3, 5, 4}, []int{1000, 0, 1, 1, 2, 5, 5, 5000, 4000}},
		{"a chain that ends before the next root", "11|1233", []int{1, 2, 7, 5, 3, 1}, []int{8, 9, 10, 3, 1, 1000}, 4, "11|2233443", []int{1, 2, 4, 3, 3, 2, 2, 1, 1}, []int{8, 9, 5, 5, 1, 2, 0, 1, 1000}},
		{"a chain beside roots that stay", "0|0|1233|221|0", []int{2, 9, 7, 5, 3, 1, 4, 5, 6, 8}, []int{0, 9000, 10, 3, 1, 1000, 3, 2, 1, 7}, 4, "0|11|2233443|221|0", []int{2, 5, 4, 4, 3, 3, 2, 2, 1, 1, 4, 5, 6, 8}, []int{0, 5000, 4000, 5, 5, 1, 2, 0, 1, 1000, 3, 2, 1, 7}},
		{"a chain of empty leaves", "0|1233", []int{0, 0, 0, 0, 0}, []int{0, 0, 0, 0, 0}, 3, "11|2233443", make([]int, 9), make([]int, 9)},
		{"neighbours of the same level on both sides", "2222", []int{1, 7, 3, 4}, []int{5, 10, 7, 8}, 1, "23322", []int{1, 4, 3, 3, 4}, []int{5, 5, 5, 7, 8}},
		{"the deepest level", "12344", []int{1, 1, 1, 9, 9}, []int{1, 1, 1, 8, 9}, 3, "", nil, nil},
		{"the last leaf, of the deepest level", "12344", []int{1, 1, 1, 9, 9}, []int{1, 1, 1, 8, 9}, 4, "", nil, nil},
		{"the first leaf, of the deepest level", "44321", []int{9, 9, 1, 1, 1}, []int{8, 9, 1, 1, 1}, 0, "", nil, nil},
		{"the deepest level beside a coarser leaf", "3443322", []int{9, 9, 1, 1, 1, 1, 1}, []int{0, 0, 0, 0, 0, 0, 0}, 1, "", nil, nil},
	})
}

// filledPlain returns a balanced state of a text with contents of all kinds, which depend on a number.
func filledPlain(text string, n int) plainState {
	masses := []int{0, 1, 2, 3, 7, 8, 1001, 65535, 65536, 5}
	p := plainState{text: text}
	for i := range leafDigits(text) {
		mass := masses[(3*i+n)%len(masses)]
		tracers := []int{1000 * mass, 0, mass / 2, 333*mass + mass%2, max(0, 1000*mass-1), min(1, mass), 7 * mass}
		p.mass = append(p.mass, mass)
		p.tracer = append(p.tracer, tracers[(i+n)%len(tracers)])
	}
	for place := range len(text) {
		if place == 0 || text[place] == '|' {
			p.bed = append(p.bed, (n+place)*7919%1000001)
		}
	}
	return p
}

// balancedPlains returns states on each balanced way to divide a root, and on balanced channels of 2 to 8 roots.
func balancedPlains() []plainState {
	var states []plainState
	for n, k := range knownMeshes() {
		if k.mesh.Roots == 1 && textUneven(k.text) < 0 || k.mesh.Roots > 1 && n%11 == 0 {
			states = append(states, filledPlain(balancedText(k.text), n))
		}
	}
	return states
}

// TestTransfersOfKnownStates compares each change at each index with its oracle.
func TestTransfersOfKnownStates(t *testing.T) {
	byText := shapesByText()
	for _, c := range transfers(byText) {
		done, refused := 0, 0
		for _, p := range balancedPlains() {
			s := p.state(t, byText)
			for i := -2; i <= len(p.mass)+2; i++ {
				changed, ok := c.oracle(p, i)
				want := impl.State{}
				if ok {
					done++
					want = changed.state(t, byText)
				} else {
					refused++
				}
				wantTransfer(t, c, s, i, want, ok)
			}
		}
		if done < 1000 || refused < 1000 {
			t.Errorf("%s was done only %d times, and refused %d times", c.name, done, refused)
		}
	}
}

// wantNothingCreatedOrLost checks that two states are valid and have the same beds and totals, and that each leaf of
// the coarser state has what the leaves within it have in the finer one.
func wantNothingCreatedOrLost(t *testing.T, coarser impl.State, finer impl.State) {
	t.Helper()
	wantTotals(t, coarser)
	wantTotals(t, finer)
	if impl.TotalMass(coarser) != impl.TotalMass(finer) || impl.TotalTracer(coarser) != impl.TotalTracer(finer) || !slices.Equal(coarser.Bed, finer.Bed) {
		t.Fatalf("the totals or the beds of %v and %v differ", coarser, finer)
	}
	mass, tracer := make([]int, len(coarser.Mass)), make([]int, len(coarser.Mass))
	for i, leaf := range finer.Mesh.Leaves {
		holder := slices.IndexFunc(coarser.Mesh.Leaves, func(x impl.Id) bool { return impl.Contains(x, leaf) })
		if holder < 0 {
			t.Fatalf("the leaf %v of %v is not within a leaf of %v", leaf, finer, coarser)
		}
		mass[holder] += finer.Mass[i]
		tracer[holder] += finer.Tracer[i]
	}
	if !slices.Equal(mass, coarser.Mass) || !slices.Equal(tracer, coarser.Tracer) {
		t.Fatalf("the leaves of %v have the masses %v and the tracers %v in %v", coarser, mass, tracer, finer)
	}
}

// TestRefiningAndCoarseningNeitherCreateNorLose states the promise itself.
func TestRefiningAndCoarseningNeitherCreateNorLose(t *testing.T) {
	byText := shapesByText()
	for _, p := range balancedPlains() {
		s := p.state(t, byText)
		for i := range s.Mass {
			for _, c := range transfers(byText) {
				got, ok := c.change(s, i)
				if !ok {
					continue
				}
				if len(got.Mass) < len(s.Mass) {
					wantNothingCreatedOrLost(t, got, s)
				} else {
					wantNothingCreatedOrLost(t, s, got)
				}
			}
		}
	}
}

func TestCoarseningAStateUndoesRefiningIt(t *testing.T) {
	byText := shapesByText()
	count := 0
	for _, p := range balancedPlains() {
		s := p.state(t, byText)
		for i := range s.Mass {
			finer, ok := impl.RefineState(s, i)
			if !ok {
				continue
			}
			count++
			if back, ok := impl.CoarsenState(finer, i); !ok || !sameAsState(back, s) {
				t.Fatalf("refining %v at %d gives %v, and coarsening that %v, %v", s, i, finer, back, ok)
			}
		}
	}
	if count < 1000 {
		t.Errorf("only %d refinements were undone", count)
	}
}

// TestCoarseningUndoesBalanceRefine coarsens the pairs whose parent is a leaf of the first state, until there is none.
func TestCoarseningUndoesBalanceRefine(t *testing.T) {
	byText := shapesByText()
	chains := 0
	for _, p := range balancedPlains() {
		s := p.state(t, byText)
		for i := range s.Mass {
			back, ok := impl.BalanceRefine(s, i)
			if !ok {
				continue
			}
			if len(back.Mass) > len(s.Mass)+1 {
				chains++
			}
			for at := 0; at < len(back.Mass); at++ {
				parent, ok := impl.ParentOf(back.Mesh.Leaves[at])
				if !ok || impl.LeafOf(s.Mesh, parent) < 0 {
					continue
				}
				if coarser, ok := impl.CoarsenState(back, at); ok {
					back, at = coarser, -1
				}
			}
			if !sameAsState(back, s) {
				t.Fatalf("refining %v at %d and coarsening that gives %v", s, i, back)
			}
		}
	}
	if chains < 1000 {
		t.Errorf("only %d refinements asked for others", chains)
	}
}

// TestBalanceRefineIsRefineStateFromTheFarEnd refines the coarser neighbours first, so that no mesh is unbalanced on the way.
func TestBalanceRefineIsRefineStateFromTheFarEnd(t *testing.T) {
	byText := shapesByText()
	for _, p := range balancedPlains() {
		s := p.state(t, byText)
		for i, leaf := range s.Mesh.Leaves {
			want, ok := impl.BalanceRefine(s, i)
			if !ok {
				continue
			}
			got := s
			for impl.LeafOf(got.Mesh, leaf) >= 0 {
				at := coarsestNeighbour(got, impl.LeafOf(got.Mesh, leaf))
				got, ok = impl.RefineState(got, at)
				if !ok {
					t.Fatalf("RefineState refuses %v at %d", got, at)
				}
			}
			if !sameAsState(got, want) {
				t.Fatalf("BalanceRefine of %v at %d gives %v; want %v", s, i, want, got)
			}
		}
	}
}

// coarsestNeighbour goes from a leaf to a coarser neighbour, and on from there, until there is none.
func coarsestNeighbour(s impl.State, i int) int {
	for {
		level := s.Mesh.Leaves[i].Level
		switch {
		case i > 0 && s.Mesh.Leaves[i-1].Level < level:
			i--
		case i < len(s.Mesh.Leaves)-1 && s.Mesh.Leaves[i+1].Level < level:
			i++
		default:
			return i
		}
	}
}

// TestFromTheCoarsestToTheFinestState refines the last leaf that may be refined until there is none, and coarsens the
// first pair until there is none.
func TestFromTheCoarsestToTheFinestState(t *testing.T) {
	coarsest, _ := impl.MeshNew(8, 0)
	finest, _ := impl.MeshNew(8, 4)
	start := impl.State{Mesh: coarsest, Mass: []int{0, 1, 15, 17, 9999000, 31, 100, 77}, Tracer: []int{0, 1000, 7, 16999, 9998999999, 1, 99999, 0}, Bed: []int{1, 2, 3, 4, 5, 6, 7, 1000000}}
	wantTotals(t, start)
	s := start
	for i := len(s.Mass) - 1; i >= 0; {
		finer, ok := impl.BalanceRefine(s, i)
		if !ok {
			i--
			continue
		}
		wantNothingCreatedOrLost(t, s, finer)
		wantNothingCreatedOrLost(t, start, finer)
		s, i = finer, len(finer.Mass)-1
	}
	if !sameAsMesh(s.Mesh, finest) {
		t.Fatalf("refining ends at %q", impl.FormatMesh(s.Mesh))
	}
	for i := 0; i < len(s.Mass); i++ {
		if coarser, ok := impl.CoarsenState(s, i); ok {
			wantNothingCreatedOrLost(t, coarser, s)
			s, i = coarser, -1
		}
	}
	if !sameAsState(s, start) {
		t.Fatalf("coarsening ends at %v; want %v", s, start)
	}
}

func TestTransfersAtExtremeIndices(t *testing.T) {
	byText := shapesByText()
	for _, s := range baseStates(t) {
		for _, i := range append(extremeInts(), extremeCellNumbers()...) {
			if i >= 0 && i < len(s.Mass) {
				continue
			}
			for _, c := range transfers(byText) {
				wantTransfer(t, c, s, i, impl.State{}, false)
			}
		}
	}
}

func TestTransfersOfInvalidStates(t *testing.T) {
	for s := range invalidStates(t) {
		wantNoTransfers(t, s)
	}
}

// TestTransfersOfStatesThatAreAlmostValid has leaves that could be changed, were it not for one thing elsewhere.
func TestTransfersOfStatesThatAreAlmostValid(t *testing.T) {
	m, _ := impl.ParseMesh("122|11")
	valid := impl.State{Mesh: m, Mass: []int{4, 5, 6, 7, 8}, Tracer: []int{1, 2, 3, 4, 5}, Bed: []int{9, 10}}
	for _, c := range transfers(nil) {
		if _, ok := c.change(valid, 3); !ok && c.name != "CoarsenState" {
			t.Errorf("%s refuses a valid state", c.name)
		}
		if _, ok := c.change(valid, 1); !ok && c.name == "CoarsenState" {
			t.Errorf("%s refuses a valid state", c.name)
		}
	}
	numbers := func(n ...int) []int { return n }
	lists := []struct{ mass, tracer, bed []int }{
		{nil, nil, nil},
		{nil, valid.Tracer, valid.Bed},
		{valid.Mass, nil, valid.Bed},
		{valid.Mass, valid.Tracer, nil},
		{valid.Mass[:4], valid.Tracer, valid.Bed},
		{valid.Mass, valid.Tracer[:4], valid.Bed},
		{valid.Mass[:4], valid.Tracer[:4], valid.Bed},
		{valid.Mass, valid.Tracer, valid.Bed[:1]},
		{numbers(4, 5, 6, 7, 8, 0), valid.Tracer, valid.Bed},
		{valid.Mass, numbers(1, 2, 3, 4, 5, 0), valid.Bed},
		{numbers(4, 5, 6, 7, 8, 0), numbers(1, 2, 3, 4, 5, 0), valid.Bed},
		{valid.Mass, valid.Tracer, numbers(9, 10, 0)},
		{numbers(-1, 5, 6, 7, 8), numbers(0, 2, 3, 4, 5), valid.Bed},
		{numbers(4, 5, 6, 7, -1), numbers(1, 2, 3, 4, 0), valid.Bed},
		{valid.Mass, numbers(-1, 2, 3, 4, 5), valid.Bed},
		{valid.Mass, numbers(1, 2, 3, 4, -1), valid.Bed},
		{valid.Mass, numbers(4001, 2, 3, 4, 5), valid.Bed},
		{valid.Mass, numbers(1, 2, 3, 4, 8001), valid.Bed},
		{numbers(0, 5, 6, 7, 8), valid.Tracer, valid.Bed},
		{valid.Mass, valid.Tracer, numbers(-1, 10)},
		{valid.Mass, valid.Tracer, numbers(9, -1)},
		{valid.Mass, valid.Tracer, numbers(1000001, 10)},
		{valid.Mass, valid.Tracer, numbers(9, 1000001)},
		{numbers(9999975, 5, 6, 7, 8), valid.Tracer, valid.Bed},
		{numbers(4, 5, 6, 7, 9999979), valid.Tracer, valid.Bed},
		{numbers(1<<62, 1<<62, 1<<62, 1<<62, 8), valid.Tracer, valid.Bed},
		{numbers(1<<61, 5, 6, 7, 8), valid.Tracer, valid.Bed},
		{numbers(math.MaxInt, math.MaxInt, 6, 7, 8), numbers(math.MaxInt, math.MaxInt, 3, 4, 5), valid.Bed},
		{numbers(math.MinInt, math.MinInt, 6, 7, 8), numbers(math.MinInt, math.MinInt, 3, 4, 5), valid.Bed},
		{valid.Mass, valid.Tracer, numbers(math.MinInt, math.MaxInt)},
	}
	for _, l := range lists {
		wantNoTransfers(t, impl.State{Mesh: m, Mass: l.mass, Tracer: l.tracer, Bed: l.bed})
	}
}

// TestTransfersDoNotBalanceAnUnbalancedState has states that one change would balance, but that are not valid before.
func TestTransfersDoNotBalanceAnUnbalancedState(t *testing.T) {
	byText := shapesByText()
	for text, i := range map[string]int{"122|0": 3, "0|221": 0, "0|122|0": 4, "1332": 0, "2331": 3} {
		p := filledPlain(text, i)
		s := p.state(t, byText)
		finer, ok := splitPlain(p, i)
		if !ok || textUneven(text) < 0 || textUneven(finer.text) >= 0 {
			t.Fatalf("%q at %d is no example", text, i)
		}
		wantNoTransfers(t, s)
		wantTransfer(t, transfer{name: "RefineState", change: impl.RefineState}, s, i, impl.State{}, false)
		wantTransfer(t, transfer{name: "BalanceRefine", change: impl.BalanceRefine}, s, i, impl.State{}, false)
	}
	s := filledPlain("122|0", 1).state(t, byText)
	wantTransfer(t, transfer{name: "CoarsenState", change: impl.CoarsenState}, s, 1, impl.State{}, false)
}

// wantSeparateLists writes another number into each list of a state, with its spare capacity, and looks at all of them then.
func wantSeparateLists(t *testing.T, s impl.State) {
	t.Helper()
	all := withAll(s)
	lists := [][]int{all.Mass, all.Tracer, all.Bed}
	for mark, list := range lists {
		for i := range list {
			list[i] = mark
		}
	}
	for mark, list := range lists {
		if slices.ContainsFunc(list, func(n int) bool { return n != mark }) {
			t.Fatalf("the lists of a state share memory: %v", s)
		}
	}
}

// TestTransfersReturnNewMemory looks at the results of changes and of refused ones.
func TestTransfersReturnNewMemory(t *testing.T) {
	states := slices.Concat(baseStates(t), unevenStates(t), []impl.State{{}, {Mass: []int{1}, Tracer: []int{2}, Bed: []int{3}}})
	for _, text := range []string{"0|1233", "3321|0", "122|11", "2222"} {
		states = append(states, filledPlain(text, 4).state(t, shapesByText()))
	}
	for _, c := range transfers(nil) {
		done := 0
		for _, s := range states {
			for i := -1; i <= len(s.Mass); i++ {
				wantOwnMemory(t, c.name, s, func(s impl.State) (impl.State, bool) { return c.change(s, i) })
				got, ok := c.change(withSpare(s), i)
				wantSeparateLists(t, got)
				if ok {
					done++
				}
			}
		}
		if done < 10 {
			t.Errorf("%s was done only %d times", c.name, done)
		}
	}
}

// TestTransfersOfListsOfOneArray has a state whose lists lie in one array, one behind the other.
func TestTransfersOfListsOfOneArray(t *testing.T) {
	m, _ := impl.ParseMesh("11")
	numbers := []int{5, 6, 70, 80, 9}
	s := impl.State{Mesh: m, Mass: numbers[0:2], Tracer: numbers[2:4], Bed: numbers[4:5]}
	finer, ok := impl.RefineState(s, 0)
	wider, good := impl.BalanceRefine(s, 1)
	coarser, is := impl.CoarsenState(s, 0)
	if !ok || !slices.Equal(finer.Mass, []int{3, 2, 6}) || !slices.Equal(finer.Tracer, []int{42, 28, 80}) || !slices.Equal(finer.Bed, []int{9}) {
		t.Errorf("RefineState gives %v, %v", finer, ok)
	}
	if !good || !slices.Equal(wider.Mass, []int{5, 3, 3}) || !slices.Equal(wider.Tracer, []int{70, 40, 40}) || !slices.Equal(wider.Bed, []int{9}) {
		t.Errorf("BalanceRefine gives %v, %v", wider, good)
	}
	if !is || !slices.Equal(coarser.Mass, []int{11}) || !slices.Equal(coarser.Tracer, []int{150}) || !slices.Equal(coarser.Bed, []int{9}) {
		t.Errorf("CoarsenState gives %v, %v", coarser, is)
	}
	if !slices.Equal(numbers, []int{5, 6, 70, 80, 9}) {
		t.Errorf("the array is %v", numbers)
	}
}
