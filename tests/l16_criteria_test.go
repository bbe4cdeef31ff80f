package tests

import (
	"math"
	"slices"
	"strings"
	"testing"

	"loop.example/g00982/impl"
)

// A bounds is a pair of the thresholds of Wishes.
type bounds struct{ high, low int }

// plainJumps is the oracle of JumpAt: it goes from face to face, and gives the height of each one to both of its leaves.
func plainJumps(p plainState) []int {
	jumps := make([]int, len(p.mass))
	sides := plainSides(p)
	for i := 1; i < len(sides); i++ {
		height := max(sides[i-1].surface, sides[i].surface) - min(sides[i-1].surface, sides[i].surface)
		for leaf := i - 1; leaf <= i; leaf++ {
			jumps[leaf] = max(jumps[leaf], height)
		}
	}
	return jumps
}

// plainWishes is the oracle of Wishes: the condition that counts is written last.
func plainWishes(p plainState, b bounds) []int {
	wishes := make([]int, len(p.mass))
	places := leafDigits(p.text)
	for i, jump := range plainJumps(p) {
		if digit := p.text[places[i]]; digit != '0' && jump < b.low {
			wishes[i] = -1
		}
		if digit := p.text[places[i]]; digit != '4' && jump > b.high {
			wishes[i] = 1
		}
	}
	return wishes
}

// plainCost is the oracle of CostOf: it counts the active faces tick by tick.
func plainCost(text string) int {
	cost := 0
	for tick := range 16 {
		cost += len(plainActive(text, tick))
	}
	return cost
}

// plainSaved is the oracle of SavedBy: all faces of the finest mesh are active in each of the 16 ticks.
func plainSaved(text string) int {
	leaves := 16 * (strings.Count(text, "|") + 1)
	return 16*(leaves-1) - plainCost(text)
}

// extremeBounds returns thresholds of all signs, far from each other and from all jumps, and around 0.
func extremeBounds() []bounds {
	var list []bounds
	numbers := []int{math.MinInt, math.MinInt + 1, -161000001, -1, 0, 1, 161000001, math.MaxInt - 1, math.MaxInt}
	for _, high := range numbers {
		for _, low := range numbers {
			list = append(list, bounds{high, low})
		}
	}
	return list
}

// boundsAround returns thresholds that a jump exceeds, reaches and falls short of, in any combination.
func boundsAround(jump int) []bounds {
	var list []bounds
	for high := jump - 1; high <= jump+1; high++ {
		for low := jump - 1; low <= jump+1; low++ {
			list = append(list, bounds{high, low})
		}
	}
	return list
}

// wantJumps checks JumpAt for all leaves of a valid state, and for leaves that do not exist.
func wantJumps(t *testing.T, s impl.State, want []int) {
	t.Helper()
	for _, i := range indicesAround(len(s.Mass)) {
		if got := impl.JumpAt(s, i); got != valueAt(want, i) {
			t.Fatalf("JumpAt of %q, %v, at %d is %d; want %d", impl.FormatMesh(s.Mesh), s, i, got, valueAt(want, i))
		}
	}
}

// wantWishes checks the wishes of a valid state, and that each leaf has one of the three.
func wantWishes(t *testing.T, s impl.State, b bounds, want []int) {
	t.Helper()
	got := impl.Wishes(s, b.high, b.low)
	if !slices.Equal(got, want) {
		t.Fatalf("Wishes of %q, %v, above %d and below %d are %v; want %v", impl.FormatMesh(s.Mesh), s, b.high, b.low, got, want)
	}
	if finer, stay, coarser := impl.CountWishes(got, 1), impl.CountWishes(got, 0), impl.CountWishes(got, -1); finer+stay+coarser != len(s.Mesh.Leaves) {
		t.Fatalf("%d, %d and %d leaves of %v have the wishes 1, 0 and -1", finer, stay, coarser, s)
	}
}

// wantPlainCriteria compares the jumps and the wishes of a state with their oracles.
func wantPlainCriteria(t *testing.T, p plainState, list []bounds, byText map[string]rootShape) {
	t.Helper()
	s := p.state(t, byText)
	wantJumps(t, s, plainJumps(p))
	for _, b := range list {
		wantWishes(t, s, b, plainWishes(p, b))
	}
}

// wantNoCriteria checks what the functions say of a state that is not valid.
func wantNoCriteria(t *testing.T, s impl.State) {
	t.Helper()
	for _, i := range []int{-1, 0, 1, 2, len(s.Mesh.Leaves) - 1, len(s.Mesh.Leaves), len(s.Mass) - 1, len(s.Mass), math.MinInt, math.MaxInt} {
		if got := impl.JumpAt(s, i); got != 0 {
			t.Fatalf("JumpAt(%v, %d) = %d; want 0", s, i, got)
		}
	}
	for _, b := range []bounds{{0, 0}, {-1, 1}, {100, 50}, {math.MinInt, math.MaxInt}, {math.MaxInt, math.MinInt}} {
		if got := impl.Wishes(s, b.high, b.low); len(got) != 0 {
			t.Fatalf("Wishes(%v, %d, %d) = %v; want none", s, b.high, b.low, got)
		}
	}
}

func wantCost(t *testing.T, m impl.Mesh, cost int, saved int) {
	t.Helper()
	if got := impl.CostOf(m); got != cost {
		t.Fatalf("CostOf(%v) = %d; want %d", m, got, cost)
	}
	if got := impl.SavedBy(m); got != saved {
		t.Fatalf("SavedBy(%v) = %d; want %d", m, got, saved)
	}
}

func TestJumpAt(t *testing.T) {
	numbers := func(n ...int) []int { return n }
	flat := numbers(0, 0, 0, 0, 0, 0, 0, 0)
	type jumpCase struct {
		name      string
		text      string
		mass, bed []int
		want      []int
	}
	plain := func(c jumpCase) (string, plainState) { return c.name, cleanPlain(c.text, c.mass, c.bed) }
	wantRestCases(t, []jumpCase{
		{"the given example", "122", numbers(400, 0, 7), flat[:1], numbers(800, 800, 28)},
		{"one leaf", "0", numbers(500), numbers(9), numbers(0)},
		{"one leaf without mass", "0", numbers(0), numbers(9), numbers(0)},
		{"one leaf without mass and bed", "0", numbers(0), numbers(0), numbers(0)},
		{"one leaf with the greatest mass and bed", "0", numbers(10000000), numbers(1000000), numbers(0)},
		{"two leaves", "0|0", numbers(500, 480), flat[:2], numbers(20, 20)},
		{"two leaves that differ by one unit", "0|0", numbers(500, 501), flat[:2], numbers(1, 1)},
		{"two leaves of equal surfaces", "0|0", numbers(500, 500), flat[:2], numbers(0, 0)},
		{"two leaves of equal surfaces over different beds", "0|0", numbers(500, 400), numbers(0, 100), numbers(0, 0)},
		{"two leaves of equal masses over different beds", "0|0", numbers(500, 500), numbers(9, 10), numbers(1, 1)},
		{"a jump to the left only", "0|0|0", numbers(900, 500, 500), flat[:3], numbers(400, 400, 0)},
		{"a jump to the right only", "0|0|0", numbers(500, 500, 900), flat[:3], numbers(0, 400, 400)},
		{"a jump to the left only, downward", "0|0|0", numbers(100, 500, 500), flat[:3], numbers(400, 400, 0)},
		{"a jump to the right only, downward", "0|0|0", numbers(500, 500, 100), flat[:3], numbers(0, 400, 400)},
		{"equal jumps to both sides, upward", "0|0|0", numbers(900, 500, 900), flat[:3], numbers(400, 400, 400)},
		{"equal jumps to both sides, downward", "0|0|0", numbers(100, 500, 100), flat[:3], numbers(400, 400, 400)},
		{"equal jumps to both sides of a stair", "0|0|0", numbers(900, 500, 100), flat[:3], numbers(400, 400, 400)},
		{"two jumps upward", "0|0|0", numbers(900, 500, 600), flat[:3], numbers(400, 400, 100)},
		{"two jumps downward", "0|0|0", numbers(100, 500, 400), flat[:3], numbers(400, 400, 100)},
		{"a greater jump upward and one downward", "0|0|0", numbers(900, 500, 400), flat[:3], numbers(400, 400, 100)},
		{"a greater jump downward and one upward", "0|0|0", numbers(100, 500, 600), flat[:3], numbers(400, 400, 100)},
		{"jumps that differ by one unit", "0|0|0", numbers(900, 500, 101), flat[:3], numbers(400, 400, 399)},
		{"leaves that are far from each other, but no neighbours", "0|0|0|0", numbers(800, 700, 600, 500), flat[:4], numbers(100, 100, 100, 100)},
		{"a jump that only its two leaves have", "0|0|0|0|0", numbers(500, 500, 9000, 9000, 9000), flat[:5], numbers(0, 8500, 8500, 0, 0)},
		{"a leaf in the middle that differs", "0|0|0|0|0", numbers(500, 500, 507, 500, 500), flat[:5], numbers(0, 7, 7, 7, 0)},
		{"a first leaf whose second neighbour differs", "0|0|0", numbers(500, 500, 8), flat[:3], numbers(0, 492, 492)},
		{"one unit of mass in the level 1", "11", numbers(501, 500), numbers(9), numbers(2, 2)},
		{"one unit of mass in the level 2", "2222", numbers(501, 500, 500, 500), numbers(9), numbers(4, 4, 0, 0)},
		{"one unit of mass in the level 3", "1233", numbers(2000, 1000, 501, 500), numbers(9), numbers(0, 8, 8, 8)},
		{"one unit of mass in the level 4", "12344", numbers(4000, 2000, 1000, 501, 500), numbers(9), numbers(0, 0, 16, 16, 16)},
		{"equal surfaces of different levels", "0|122", numbers(800, 400, 200, 200), flat[:2], numbers(0, 0, 0, 0)},
		{"equal surfaces of different levels over different beds", "0|122", numbers(1000, 400, 200, 200), numbers(7, 207), numbers(0, 0, 0, 0)},
		{"equal masses of different levels", "0|11", numbers(100, 100, 100), flat[:2], numbers(100, 100, 0)},
		{"equal masses of all levels", "12344", numbers(100, 100, 100, 100, 100), numbers(5), numbers(200, 400, 800, 800, 0)},
		{"neighbours of the same level in different roots", "11|11", numbers(10, 10, 20, 20), flat[:2], numbers(0, 20, 20, 0)},
		{"neighbours in roots of different beds", "11|11", numbers(10, 10, 10, 10), numbers(0, 100), numbers(0, 100, 100, 0)},
		{"leaves without mass above a surface", "0|0|0", numbers(0, 500, 0), numbers(10000, 0, 600), numbers(9500, 9500, 100)},
		{"a channel that is dry", "0|0|0", numbers(0, 0, 0), numbers(5, 6, 8), numbers(1, 2, 2)},
		{"the greatest numbers", "0|0", numbers(10000000, 0), numbers(1000000, 0), numbers(11000000, 11000000)},
		{"the greatest numbers in the deepest level", "12344|44321", numbers(0, 0, 0, 0, 10000000, 0, 0, 0, 0, 0), numbers(1000000, 0), numbers(0, 0, 0, 160000000, 161000000, 161000000, 0, 0, 0, 0)},
		{"eight roots", "0|0|0|0|0|0|0|0", numbers(1, 2, 4, 7, 11, 16, 22, 29), flat, numbers(1, 2, 3, 4, 5, 6, 7, 7)},
		{"sixteen leaves", "4444444444444444", numbers(5, 5, 5, 6, 4, 4, 4, 4, 4, 4, 4, 4, 4, 4, 4, 5), numbers(8), numbers(0, 0, 16, 32, 32, 0, 0, 0, 0, 0, 0, 0, 0, 0, 16, 16)},
	}, plain, func(t *testing.T, c jumpCase, s impl.State) {
		want := c.want
		if impl.FormatMesh(s.Mesh) != c.text || !slices.Equal(s.Mass, c.mass) || !slices.Equal(s.Bed, c.bed) {
			want = fromTheEnd(c.want)
		}
		wantJumps(t, s, want)
	})
}

type wishCase struct {
	name string
	b    bounds
	want []int
}

// wantWishCases checks the wishes of one state, and of the same one seen from the other side.
func wantWishCases(t *testing.T, p plainState, cases []wishCase) {
	t.Helper()
	byText := shapesByText()
	for _, c := range cases {
		t.Run(c.name, func(t *testing.T) {
			wantWishes(t, p.state(t, byText), c.b, c.want)
			wantWishes(t, mirroredPlain(p).state(t, byText), c.b, fromTheEnd(c.want))
		})
	}
}

func TestWishesOfTheGivenExample(t *testing.T) {
	numbers := func(n ...int) []int { return n }
	// The jumps are 800, 800 and 28.
	p := plainState{"122", numbers(400, 0, 7), numbers(1000, 0, 21), numbers(0)}
	wantWishCases(t, p, []wishCase{
		{"as given", bounds{700, 50}, numbers(1, 1, -1)},
		{"a jump equal to high", bounds{800, 0}, numbers(0, 0, 0)},
		{"a jump greater than high by 1", bounds{799, 0}, numbers(1, 1, 0)},
		{"a jump less than high by 1", bounds{801, 0}, numbers(0, 0, 0)},
		{"another jump equal to high", bounds{28, 0}, numbers(1, 1, 0)},
		{"another jump greater than high by 1", bounds{27, 0}, numbers(1, 1, 1)},
		{"a jump equal to low", bounds{1000, 28}, numbers(0, 0, 0)},
		{"a jump less than low by 1", bounds{1000, 29}, numbers(0, 0, -1)},
		{"a jump greater than low by 1", bounds{1000, 27}, numbers(0, 0, 0)},
		{"another jump equal to low", bounds{1000, 800}, numbers(0, 0, -1)},
		{"another jump less than low by 1", bounds{1000, 801}, numbers(-1, -1, -1)},
		{"a jump equal to both", bounds{800, 800}, numbers(0, 0, -1)},
		{"both conditions hold for all leaves", bounds{27, 801}, numbers(1, 1, 1)},
		{"both conditions hold for one leaf", bounds{27, 29}, numbers(1, 1, 1)},
		{"both conditions hold for some leaves", bounds{28, 801}, numbers(1, 1, -1)},
		{"a jump equal to a high that is less than low", bounds{800, 801}, numbers(-1, -1, -1)},
		{"a jump equal to a low that is greater than high", bounds{799, 800}, numbers(1, 1, -1)},
		{"high greater than low by far", bounds{math.MaxInt, math.MinInt}, numbers(0, 0, 0)},
		{"high less than low by far", bounds{math.MinInt, math.MaxInt}, numbers(1, 1, 1)},
	})
}

// TestWishesOfAllLevels has a leaf of each level, with jumps of 0 and of more.
func TestWishesOfAllLevels(t *testing.T) {
	numbers := func(n ...int) []int { return n }
	// The surfaces are 100, 200, 400, 800, 1600, 1600, and the jumps 100, 200, 400, 800, 800, 0.
	p := cleanPlain("0|12344", slices.Repeat(numbers(100), 6), numbers(0, 0))
	wantWishCases(t, p, []wishCase{
		{"no leaf is above high or below low", bounds{800, 0}, numbers(0, 0, 0, 0, 0, 0)},
		{"all leaves with a jump are above high, and those of MaxLevel stay", bounds{0, 0}, numbers(1, 1, 1, 1, 0, 0)},
		{"all leaves are above a negative high, and those of MaxLevel stay", bounds{-1, -1}, numbers(1, 1, 1, 1, 0, 0)},
		{"a leaf of MaxLevel above high stays", bounds{799, 0}, numbers(0, 0, 0, 1, 0, 0)},
		{"a leaf of MaxLevel above high stays, and one below low becomes coarser", bounds{799, 1}, numbers(0, 0, 0, 1, 0, -1)},
		{"a leaf of MaxLevel above high falls below low", bounds{799, 801}, numbers(0, -1, -1, 1, -1, -1)},
		{"a leaf of MaxLevel equal to high falls below low", bounds{800, 801}, numbers(0, -1, -1, -1, -1, -1)},
		{"a leaf of Level 0 below low stays", bounds{1000, 101}, numbers(0, 0, 0, 0, 0, -1)},
		{"a leaf of Level 0 equal to low stays", bounds{1000, 100}, numbers(0, 0, 0, 0, 0, -1)},
		{"a leaf of Level 0 below low and above high becomes finer", bounds{99, 101}, numbers(1, 1, 1, 1, 0, -1)},
		{"a leaf of Level 0 below low and equal to high stays", bounds{100, 101}, numbers(0, 1, 1, 1, 0, -1)},
		{"a leaf of each level below low", bounds{1000, 1000}, numbers(0, -1, -1, -1, -1, -1)},
		{"leaves between low and high", bounds{399, 201}, numbers(0, -1, 1, 1, 0, -1)},
		{"leaves equal to low and high", bounds{400, 200}, numbers(0, 0, 0, 1, 0, -1)},
		{"both thresholds the least int", bounds{math.MinInt, math.MinInt}, numbers(1, 1, 1, 1, 0, 0)},
		{"both thresholds the greatest int", bounds{math.MaxInt, math.MaxInt}, numbers(0, -1, -1, -1, -1, -1)},
		{"high the greatest and low the least int", bounds{math.MaxInt, math.MinInt}, numbers(0, 0, 0, 0, 0, 0)},
		{"high the least and low the greatest int", bounds{math.MinInt, math.MaxInt}, numbers(1, 1, 1, 1, -1, -1)},
		{"a negative low", bounds{1000, -1}, numbers(0, 0, 0, 0, 0, 0)},
		{"a negative high and a low of 1", bounds{-5, 1}, numbers(1, 1, 1, 1, 0, -1)},
	})
}

// TestCriteriaOfOneLeaf has a channel without a neighbour and without a face.
func TestCriteriaOfOneLeaf(t *testing.T) {
	byText := shapesByText()
	for _, mass := range []int{0, 1, 500, 10000000} {
		for _, bed := range []int{0, 7, 1000000} {
			s := plainState{"0", []int{mass}, []int{1000 * mass}, []int{bed}}.state(t, byText)
			wantJumps(t, s, []int{0})
			for _, high := range []int{0, 1, 500, math.MaxInt} {
				for _, low := range extremeInts() {
					wantWishes(t, s, bounds{high, low}, []int{0})
				}
			}
			for _, high := range []int{-1, -2, -500, math.MinInt} {
				for _, low := range extremeInts() {
					wantWishes(t, s, bounds{high, low}, []int{1})
				}
			}
			wantCost(t, s.Mesh, 0, 240)
		}
	}
}

// TestWishesOfUniformMeshes has still leaves of one level: those of MaxLevel can only become coarser, and those of
// Level 0 only finer.
func TestWishesOfUniformMeshes(t *testing.T) {
	byText := shapesByText()
	for roots := 1; roots <= 8; roots++ {
		for level := range 5 {
			p := evenPlain(roots, level, 50, 7)
			for _, b := range slices.Concat(extremeBounds(), boundsAround(0)) {
				want := 0
				switch {
				case b.high < 0 && level < 4:
					want = 1
				case b.low > 0 && level > 0:
					want = -1
				}
				s := p.state(t, byText)
				wantJumps(t, s, make([]int, len(p.mass)))
				wantWishes(t, s, b, slices.Repeat([]int{want}, roots<<level))
			}
		}
	}
}

// TestCriteriaOfKnownStates compares the jumps and the wishes with their oracles, on states of all shapes, with
// thresholds around each of their jumps.
func TestCriteriaOfKnownStates(t *testing.T) {
	byText := shapesByText()
	extreme := extremeBounds()
	counts := map[int]int{}
	compare := func(n int, p plainState) {
		list := []bounds{extreme[n%len(extreme)], extreme[n*31%len(extreme)]}
		jumps := plainJumps(p)
		slices.Sort(jumps)
		for i, jump := range slices.Compact(jumps) {
			around := boundsAround(jump)
			list = append(list, around[(i+n)%len(around)], around[(5*i+n)%len(around)])
		}
		list = append(list, bounds{jumps[len(jumps)/2], jumps[len(jumps)/3]}, bounds{jumps[len(jumps)/3], jumps[len(jumps)/2]})
		wantPlainCriteria(t, p, list, byText)
		for _, wish := range plainWishes(p, list[len(list)-2]) {
			counts[wish]++
		}
	}
	for n, p := range fluxPlains() {
		compare(n, p)
	}
	for n, p := range slices.Concat(lakePlains(), puddlePlains()) {
		if n%5 == 0 {
			compare(n, p)
		}
	}
	if min(counts[1], counts[0], counts[-1]) < 1000 || len(counts) != 3 {
		t.Errorf("there are only so many wishes of each kind: %v", counts)
	}
}

// TestCriteriaOfBaseStates has all combinations of extreme thresholds, and of those around each jump.
func TestCriteriaOfBaseStates(t *testing.T) {
	byText := shapesByText()
	for _, s := range baseStates(t) {
		p := plainState{impl.FormatMesh(s.Mesh), s.Mass, s.Tracer, s.Bed}
		wantPlainCriteria(t, p, extremeBounds(), byText)
		for _, jump := range plainJumps(p) {
			wantPlainCriteria(t, p, boundsAround(jump), byText)
		}
	}
	for _, p := range richPlains() {
		wantPlainCriteria(t, p, extremeBounds(), byText)
		for _, jump := range plainJumps(p) {
			wantPlainCriteria(t, p, boundsAround(jump), byText)
		}
	}
}

// TestEachLeafHasOneWish states the promise itself: there is one wish for each leaf, which follows from its jump and
// its level alone, and which the leaf may have.
func TestEachLeafHasOneWish(t *testing.T) {
	byText := shapesByText()
	finer, stay, coarser, both := 0, 0, 0, 0
	for n, p := range fluxPlains() {
		s := p.state(t, byText)
		jump := impl.JumpAt(s, n%len(p.mass))
		for _, b := range []bounds{{jump, jump}, {jump - 1, jump + 1}, {2 * jump, jump}, {jump / 2, jump + 1}, {4 * jump, jump / 2}, {-1, -1}, {math.MaxInt, math.MaxInt}} {
			list := impl.Wishes(s, b.high, b.low)
			if len(list) != len(s.Mesh.Leaves) {
				t.Fatalf("%d leaves have %d wishes: %v", len(s.Mesh.Leaves), len(list), list)
			}
			for i, wish := range list {
				leaf := s.Mesh.Leaves[i]
				high, low := impl.JumpAt(s, i) > b.high && leaf.Level < 4, impl.JumpAt(s, i) < b.low && leaf.Level > 0
				if (wish == 1) != high || (wish == -1) != (low && !high) || (wish == 0) != (!low && !high) {
					t.Fatalf("the leaf %d of %v has the wish %d above %d and below %d; its jump is %d", i, s, wish, b.high, b.low, impl.JumpAt(s, i))
				}
				if high && low {
					both++
				}
			}
			finer, stay, coarser = finer+impl.CountWishes(list, 1), stay+impl.CountWishes(list, 0), coarser+impl.CountWishes(list, -1)
		}
	}
	if min(finer, stay, coarser, both) < 1000 {
		t.Errorf("there are only %d wishes of 1, %d of 0, %d of -1, and %d where both conditions hold", finer, stay, coarser, both)
	}
}

// TestWishesCanBeFulfilled refines a leaf with the wish 1, and finds a parent of a leaf with the wish -1.
func TestWishesCanBeFulfilled(t *testing.T) {
	byText := shapesByText()
	for n, p := range balancedPlains() {
		s := p.state(t, byText)
		jump := impl.JumpAt(s, n%len(p.mass))
		for i, wish := range impl.Wishes(s, jump/2, jump/2+n%3) {
			_, finer := impl.BalanceRefine(s, i)
			_, coarser := impl.ParentOf(s.Mesh.Leaves[i])
			if wish == 1 && !finer || wish == -1 && !coarser {
				t.Fatalf("the leaf %d of %v has the wish %d", i, s, wish)
			}
		}
	}
}

// TestThresholdsThatRise has fewer wishes of 1 with a greater high, and more wishes of -1 with a greater low.
func TestThresholdsThatRise(t *testing.T) {
	byText := shapesByText()
	for n, p := range balancedPlains() {
		s := p.state(t, byText)
		jumps := plainJumps(p)
		slices.Sort(jumps)
		thresholds := slices.Concat([]int{math.MinInt, -1, 0, 1}, jumps, []int{math.MaxInt})
		other := jumps[n%len(jumps)]
		lastFiner, lastCoarser := len(p.mass), 0
		slices.Sort(thresholds)
		for _, threshold := range thresholds {
			finer := impl.CountWishes(impl.Wishes(s, threshold, other), 1)
			coarser := impl.CountWishes(impl.Wishes(s, other, threshold), -1)
			if finer > lastFiner || coarser < lastCoarser {
				t.Fatalf("%d leaves of %v become finer and %d coarser at %d; before %d and %d", finer, s, coarser, threshold, lastFiner, lastCoarser)
			}
			lastFiner, lastCoarser = finer, coarser
		}
		if lastFiner != 0 {
			t.Fatalf("%d leaves of %v are above the greatest int", lastFiner, s)
		}
	}
}

// TestCriteriaDoNotDependOnTheTracer compares states that differ in their tracers.
func TestCriteriaDoNotDependOnTheTracer(t *testing.T) {
	byText := shapesByText()
	for n, p := range fluxPlains() {
		clean, brewed := cleanPlain(p.text, p.mass, p.bed).state(t, byText), brewedPlain(p).state(t, byText)
		jump := impl.JumpAt(clean, n%len(p.mass))
		for i := range p.mass {
			if impl.JumpAt(clean, i) != impl.JumpAt(brewed, i) {
				t.Fatalf("the jump of %v at %d is %d; without tracer it is %d", brewed, i, impl.JumpAt(brewed, i), impl.JumpAt(clean, i))
			}
		}
		if got, want := impl.Wishes(brewed, jump, jump/2), impl.Wishes(clean, jump, jump/2); !slices.Equal(got, want) {
			t.Fatalf("the wishes of %v are %v; without tracer they are %v", brewed, got, want)
		}
	}
}

// TestJumpsAreDifferencesOfSurfaces compares JumpAt with SurfaceOf and SteepestFace.
func TestJumpsAreDifferencesOfSurfaces(t *testing.T) {
	byText := shapesByText()
	for _, p := range fluxPlains() {
		s := p.state(t, byText)
		greatest := 0
		for i := range p.mass {
			want := 0
			for _, near := range []int{i - 1, i + 1} {
				if near >= 0 && near < len(p.mass) {
					drop := impl.SurfaceOf(s, i) - impl.SurfaceOf(s, near)
					want = max(want, drop, -drop)
				}
			}
			if got := impl.JumpAt(s, i); got != want {
				t.Fatalf("the jump of %v at %d is %d; want %d", s, i, got, want)
			}
			greatest = max(greatest, want)
		}
		if steepest := impl.SteepestFace(s); steepest >= 0 && (impl.JumpAt(s, steepest) != greatest || impl.JumpAt(s, steepest+1) != greatest) {
			t.Fatalf("the jumps of %v at both sides of its steepest face are %d and %d; want %d", s, impl.JumpAt(s, steepest), impl.JumpAt(s, steepest+1), greatest)
		}
	}
}

func TestJumpsAtExtremeIndices(t *testing.T) {
	byText := shapesByText()
	states := baseStates(t)
	for _, p := range richPlains() {
		states = append(states, p.state(t, byText))
	}
	for _, s := range states {
		for _, i := range append(extremeInts(), extremeCellNumbers()...) {
			if got := impl.JumpAt(s, i); (i < 0 || i >= len(s.Mass)) && got != 0 {
				t.Errorf("JumpAt(%v, %d) = %d; want 0", s, i, got)
			}
		}
	}
}

func TestCountWishes(t *testing.T) {
	numbers := func(n ...int) []int { return n }
	for _, c := range []struct {
		list []int
		wish int
		want int
	}{
		{nil, 0, 0},
		{nil, 1, 0},
		{numbers(), 0, 0},
		{numbers(), -1, 0},
		{numbers(1), 1, 1},
		{numbers(1), 0, 0},
		{numbers(1), -1, 0},
		{numbers(0), 0, 1},
		{numbers(0), 1, 0},
		{numbers(0), -1, 0},
		{numbers(-1), -1, 1},
		{numbers(-1), 0, 0},
		{numbers(-1), 1, 0},
		{numbers(1, 1, -1), 1, 2},
		{numbers(1, 1, -1), -1, 1},
		{numbers(1, 1, -1), 0, 0},
		{numbers(1, 1, -1), 2, 0},
		{numbers(1, 1, -1), -2, 0},
		{numbers(1, 1, -1), math.MaxInt, 0},
		{numbers(1, 1, -1), math.MinInt, 0},
		{numbers(0, 1, -1, 0, 1, 0), 0, 3},
		{numbers(0, 1, -1, 0, 1, 0), 1, 2},
		{numbers(0, 1, -1, 0, 1, 0), -1, 1},
		{numbers(0, 0, 0, 0), 0, 4},
		{numbers(-1, 7, 7, 8, -7), 7, 2},
		{numbers(-1, 7, 7, 8, -7), -7, 1},
		{numbers(-1, 7, 7, 8, -7), 6, 0},
		{numbers(7, 0, 0, 0), 7, 1},
		{numbers(0, 0, 0, 7), 7, 1},
		{numbers(math.MaxInt, math.MinInt, math.MaxInt), math.MaxInt, 2},
		{numbers(math.MaxInt, math.MinInt, math.MaxInt), math.MinInt, 1},
		{numbers(math.MaxInt, math.MinInt, math.MaxInt), -1, 0},
		{numbers(1<<32, 1<<32+1, 1), 1, 1},
		{numbers(1<<32, 1<<32+1, 1), 0, 0},
		{slices.Repeat(numbers(1, 0, -1, -1), 1000), -1, 2000},
		{slices.Repeat(numbers(1, 0, -1, -1), 1000), 1, 1000},
	} {
		given := slices.Clone(c.list)
		if got := impl.CountWishes(given, c.wish); got != c.want {
			t.Errorf("CountWishes(%v, %d) = %d; want %d", c.list, c.wish, got, c.want)
		}
		if !slices.Equal(given, c.list) {
			t.Errorf("CountWishes changes %v to %v", c.list, given)
		}
	}
}

// TestCountWishesOfAnyList compares CountWishes with the elements that are left when those of a wish are deleted.
func TestCountWishesOfAnyList(t *testing.T) {
	for n := range 400 {
		var list []int
		for i := range n % 40 {
			list = append(list, []int{0, 1, -1, 2, -2, math.MaxInt, math.MinInt}[(i*i+n*i/3+n)%(3+n%5)])
		}
		sum := 0
		for _, wish := range []int{0, 1, -1, 2, -2, math.MaxInt, math.MinInt, 3} {
			rest := slices.DeleteFunc(slices.Clone(list), func(n int) bool { return n == wish })
			// What lies behind the list does not count.
			given := slices.Concat(list, slices.Repeat([]int{wish}, 5))[:len(list)]
			if got := impl.CountWishes(given, wish); got != len(list)-len(rest) {
				t.Fatalf("CountWishes(%v, %d) = %d; want %d", list, wish, got, len(list)-len(rest))
			}
			sum += impl.CountWishes(list, wish)
		}
		if sum != len(list) {
			t.Fatalf("%d elements of %v are counted", sum, list)
		}
	}
}

func TestCostOf(t *testing.T) {
	byText := shapesByText()
	for _, c := range []struct {
		text  string
		cost  int
		saved int
	}{
		{"0", 0, 240},
		{"11", 2, 238},
		{"2222", 12, 228},
		{"33333333", 56, 184},
		{"4444444444444444", 240, 0},
		{"0|0", 1, 495},
		{"11|11", 6, 490},
		{"2222|2222", 28, 468},
		{"33333333|33333333", 120, 376},
		{"4444444444444444|4444444444444444", 496, 0},
		{"0|0|0|0|0|0|0|0", 7, 2025},
		{"11|11|11|11|11|11|11|11", 30, 2002},
		{strings.Repeat("2222|", 7) + "2222", 124, 1908},
		{strings.Repeat("33333333|", 7) + "33333333", 504, 1528},
		{strings.Repeat("4444444444444444|", 7) + "4444444444444444", 2032, 0},
		{"122", 8, 232},
		{"221", 8, 232},
		{"1233", 20, 220},
		{"12344", 44, 196},
		{"44321", 44, 196},
		{"0|11", 4, 492},
		{"11|0", 4, 492},
		{"122|11", 14, 482},
		{"0|12344", 46, 450},
		{"12344|44321", 104, 392},
		{"0|0|11", 5, 747},
		{"122|0", 12, 484},
		{"0|221", 12, 484},
		{"1332", 24, 216},
		{"144442", 80, 160},
		{"0|4444444444444444", 256, 240},
		{"4444444444444444|0", 256, 240},
		{"0|4444444444444444|0", 272, 480},
		{"0|4444444444444444|0|11|0|0|0|0", 281, 1751},
	} {
		m := meshWithText(t, c.text, byText)
		if cost, saved := plainCost(c.text), plainSaved(c.text); cost != c.cost || saved != c.saved {
			t.Errorf("the oracles say %d and %d of %q; want %d and %d", cost, saved, c.text, c.cost, c.saved)
		}
		wantCost(t, m, c.cost, c.saved)
	}
}

// TestCostOfUniformMeshes has meshes of MeshNew, whose cost is the number of their faces times that of their active ticks.
func TestCostOfUniformMeshes(t *testing.T) {
	for roots := 1; roots <= 8; roots++ {
		for level, ticks := range []int{1, 2, 4, 8, 16} {
			m, ok := impl.MeshNew(roots, level)
			if !ok {
				t.Fatalf("MeshNew(%d, %d) is refused", roots, level)
			}
			cost := ticks * (roots*ticks - 1)
			wantCost(t, m, cost, 16*(16*roots-1)-cost)
		}
	}
}

// TestCostOfKnownMeshes compares both functions with their oracles, on meshes of all shapes, balanced or not.
func TestCostOfKnownMeshes(t *testing.T) {
	balanced, uneven := 0, 0
	for _, k := range knownMeshes() {
		wantCost(t, k.mesh, plainCost(k.text), plainSaved(k.text))
		if textUneven(k.text) < 0 {
			balanced++
		} else {
			uneven++
		}
	}
	if min(balanced, uneven) < 100 {
		t.Errorf("there are only %d balanced meshes, and %d other ones", balanced, uneven)
	}
}

// TestCostCountsActiveFaces adds up the active faces of the ticks of a macro step.
func TestCostCountsActiveFaces(t *testing.T) {
	for n, k := range knownMeshes() {
		cost := 0
		for tick := range impl.MacroTicks {
			cost += len(impl.ActiveFaces(k.mesh, tick))
		}
		saved := -cost
		finest, _ := impl.MeshNew(k.mesh.Roots, impl.MaxLevel)
		for tick := range impl.MacroTicks {
			saved += len(impl.ActiveFaces(finest, tick))
		}
		wantCost(t, k.mesh, cost, saved)
		if n > 2000 {
			break
		}
	}
}

// TestAFinerMeshCostsMore refines each leaf of each mesh, and balances the mesh.
func TestAFinerMeshCostsMore(t *testing.T) {
	for n, k := range knownMeshes() {
		cost, saved := impl.CostOf(k.mesh), impl.SavedBy(k.mesh)
		if finest := !strings.ContainsAny(k.text, "0123"); saved < 0 || (saved == 0) != finest {
			t.Fatalf("SavedBy of %q is %d", k.text, saved)
		}
		for i := range k.mesh.Leaves {
			if n%7 > 0 {
				break
			}
			finer, ok := impl.RefineLeaf(k.mesh, i)
			if ok && (impl.CostOf(finer) <= cost || impl.SavedBy(finer)-saved != cost-impl.CostOf(finer)) {
				t.Fatalf("%q costs %d and saves %d; its leaf %d refined, it costs %d and saves %d", k.text, cost, saved, i, impl.CostOf(finer), impl.SavedBy(finer))
			}
		}
		even := impl.Balance(k.mesh)
		if more := impl.CostOf(even) - cost; more < 0 || (more == 0) != sameAsMesh(even, k.mesh) {
			t.Fatalf("%q costs %d, and %d when it is balanced", k.text, cost, impl.CostOf(even))
		}
	}
}

func TestCostFromTheOtherSide(t *testing.T) {
	byText := shapesByText()
	for _, k := range knownMeshes() {
		text := []byte(k.text)
		slices.Reverse(text)
		wantCost(t, meshWithText(t, string(text), byText), impl.CostOf(k.mesh), impl.SavedBy(k.mesh))
	}
}

func TestCostOfInvalidMeshes(t *testing.T) {
	wantCost(t, impl.Mesh{}, 0, 0)
	for _, m := range baseMeshes(t) {
		for spoilt := range spoiltMeshes(m) {
			wantCost(t, spoilt, 0, 0)
		}
	}
	for _, n := range extremeCellNumbers() {
		wantCost(t, impl.Mesh{Roots: n}, 0, 0)
		wantCost(t, impl.Mesh{Roots: n, Leaves: []impl.Id{}}, 0, 0)
		if n == 0 {
			continue
		}
		for _, x := range []impl.Id{{Root: n}, {Level: n}, {Index: n}} {
			wantCost(t, impl.Mesh{Roots: 1, Leaves: []impl.Id{x}}, 0, 0)
			if x != (impl.Id{Root: 1}) {
				wantCost(t, impl.Mesh{Roots: 2, Leaves: []impl.Id{{}, x}}, 0, 0)
			}
			wantCost(t, impl.Mesh{Roots: n, Leaves: []impl.Id{x, {}}}, 0, 0)
		}
	}
}

func TestCriteriaOfInvalidStates(t *testing.T) {
	for s := range invalidStates(t) {
		wantNoCriteria(t, s)
	}
	for _, s := range almostValidStates(t) {
		wantNoCriteria(t, s)
	}
}

// TestCriteriaOfRichStatesThatAreNotValid has states of which one list is spoilt, or one number by one unit, with jumps
// in all their leaves.
func TestCriteriaOfRichStatesThatAreNotValid(t *testing.T) {
	byText := shapesByText()
	for _, p := range richPlains() {
		s := p.state(t, byText)
		if slices.Contains(plainJumps(p), 0) {
			t.Fatalf("%v has no jumps", p)
		}
		for spoilt := range spoiltStates(s) {
			wantNoCriteria(t, spoilt)
		}
		for i, mass := range s.Mass {
			for _, c := range []blend{{1000*mass + 1, mass}, {-1, mass}, {0, -1}, {1, 0}, {1, 10000001 - impl.TotalMass(s) + mass}} {
				almost := copyOfState(s)
				almost.Mass[i], almost.Tracer[i] = c.mass, c.tracer
				wantNoCriteria(t, almost)
			}
		}
		for root := range s.Bed {
			for _, bed := range []int{-1, 1000001} {
				almost := copyOfState(s)
				almost.Bed[root] = bed
				wantNoCriteria(t, almost)
			}
		}
	}
}

// TestCostOfUnevenMeshes has meshes that are ordinary for CostOf and SavedBy, but not those of a valid state.
func TestCostOfUnevenMeshes(t *testing.T) {
	for _, s := range unevenStates(t) {
		text := impl.FormatMesh(s.Mesh)
		wantNoCriteria(t, s)
		wantCost(t, s.Mesh, plainCost(text), plainSaved(text))
	}
}

// TestCriteriaChangeNothing calls each function with spare capacity behind the lists, which must not count, and changes
// the wishes that were returned before, which must not count either.
func TestCriteriaChangeNothing(t *testing.T) {
	byText := shapesByText()
	states := append(baseStates(t), unevenStates(t)...)
	for _, p := range richPlains() {
		states = append(states, p.state(t, byText))
	}
	for _, s := range states {
		given := withSpare(s)
		before := copyOfState(withAll(given))
		got := impl.Wishes(given, 100, 50)
		want := slices.Clone(got)
		for i := range got[:cap(got)] {
			got[:cap(got)][i] = -99
		}
		again := impl.Wishes(given, 100, 50)
		for i := -1; i <= len(s.Mass); i++ {
			if impl.JumpAt(given, i) != impl.JumpAt(s, i) {
				t.Errorf("JumpAt of %v at %d is %d with spare capacity", s, i, impl.JumpAt(given, i))
			}
		}
		wantCost(t, given.Mesh, impl.CostOf(s.Mesh), impl.SavedBy(s.Mesh))
		if !sameAsState(withAll(given), before) {
			t.Errorf("the state %v has been changed: %v", before, withAll(given))
		}
		overwrite(given)
		if !slices.Equal(again, want) || !slices.Equal(impl.Wishes(s, 100, 50), want) {
			t.Errorf("the wishes of %v are %v, then %v", s, want, again)
		}
	}
}

// TestCriteriaOfListsOfOneArray has a state whose lists lie in one array, one behind the other.
func TestCriteriaOfListsOfOneArray(t *testing.T) {
	m, _ := impl.ParseMesh("122")
	numbers := []int{400, 0, 7, 1000, 0, 21, 0}
	s := impl.State{Mesh: m, Mass: numbers[0:3], Tracer: numbers[3:6], Bed: numbers[6:7]}
	wantJumps(t, s, []int{800, 800, 28})
	wantWishes(t, s, bounds{700, 50}, []int{1, 1, -1})
	if !slices.Equal(numbers, []int{400, 0, 7, 1000, 0, 21, 0}) {
		t.Errorf("the array is %v", numbers)
	}
}
