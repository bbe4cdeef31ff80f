package tests

import (
	"math"
	"slices"
	"testing"

	"loop.example/g00982/impl"
)

// A knownCell is a cell with what the document says of it, found by halving the roots instead of by the formulas.
type knownCell struct {
	id     impl.Id
	start  int
	end    int
	parent impl.Id
	side   int // 0 and 1 for the children of parent; -1 for a root
}

// allCells returns all 248 valid cells: each root, followed by the cells within it.
func allCells() []knownCell {
	var cells []knownCell
	for root := 0; root < 8; root++ {
		cells = append(cells, knownCell{id: impl.Id{Root: root}, start: 16 * root, end: 16*root + 16, side: -1})
		level := cells[len(cells)-1:]
		for depth := 1; depth <= 4; depth++ {
			level = halvesOf(level)
			cells = append(cells, level...)
		}
	}
	return cells
}

// halvesOf returns the halves of all cells of a level of one root, from left to right.
func halvesOf(level []knownCell) []knownCell {
	var halves []knownCell
	for _, c := range level {
		middle := (c.start + c.end) / 2
		for side, ends := range [][2]int{{c.start, middle}, {middle, c.end}} {
			id := impl.Id{Root: c.id.Root, Level: c.id.Level + 1, Index: len(halves)}
			halves = append(halves, knownCell{id: id, start: ends[0], end: ends[1], parent: c.id, side: side})
		}
	}
	return halves
}

// invalidIds holds cells of which at least one number is out of its range, and among them those whose formulas would overflow.
func invalidIds() []impl.Id {
	ids := []impl.Id{
		{Root: -1}, {Root: 8}, {Root: 9}, {Root: 1000}, {Root: -1000}, {Root: math.MinInt}, {Root: math.MaxInt},
		{Root: 1 << 60}, {Root: 1 << 32}, {Root: 1<<60 + 1, Level: 1, Index: 1}, {Root: -1, Level: 1}, {Root: -1, Level: 1, Index: 1}, {Root: -1, Level: 4, Index: 15}, {Root: 8, Level: 4}, {Root: 8, Level: 4, Index: 15},
		{Level: -1}, {Level: 5}, {Level: 6}, {Level: 31}, {Level: 32}, {Level: 61}, {Level: 62}, {Level: 63}, {Level: 64}, {Level: 65}, {Level: 1000}, {Level: -4}, {Level: -64}, {Level: math.MinInt}, {Level: math.MaxInt},
		{Level: 5, Index: 1}, {Level: 5, Index: 31}, {Level: 62, Index: 1}, {Level: 63, Index: 5}, {Level: math.MaxInt, Index: math.MaxInt}, {Level: math.MinInt, Index: math.MinInt},
		{Root: 3, Level: -1, Index: -1}, {Root: -1, Level: -1, Index: -1}, {Root: 8, Level: 5, Index: 32},
		{Root: math.MinInt, Level: math.MinInt, Index: math.MinInt}, {Root: math.MaxInt, Level: math.MaxInt, Index: math.MaxInt},
	}
	for level := 0; level <= 4; level++ {
		count := 1 << level
		for _, index := range []int{-1, -2, -count, count, count + 1, 2 * count, 1 << 32, 1 << 60, 1<<60 + 1, 1 << 62, -1 << 62, math.MinInt, math.MinInt + 1, math.MaxInt, math.MaxInt - 1} {
			ids = append(ids, impl.Id{Root: 0, Level: level, Index: index}, impl.Id{Root: 7, Level: level, Index: index})
		}
	}
	return ids
}

func TestLimitsOfCells(t *testing.T) {
	got := []int{impl.MaxRoots, impl.MaxLevel, impl.RootWidth}
	if want := []int{8, 4, 16}; !slices.Equal(got, want) {
		t.Errorf("limits are %v; want %v", got, want)
	}
}

func TestIdOk(t *testing.T) {
	valid := map[impl.Id]bool{}
	for _, c := range allCells() {
		valid[c.id] = true
	}
	if len(valid) != 248 {
		t.Fatalf("there are %d known cells; want 248", len(valid))
	}
	for root := -3; root <= 10; root++ {
		for level := -3; level <= 7; level++ {
			for index := -20; index <= 140; index++ {
				x := impl.Id{Root: root, Level: level, Index: index}
				if got := impl.IdOk(x); got != valid[x] {
					t.Errorf("IdOk(%v) = %v", x, got)
				}
			}
		}
	}
	for _, x := range invalidIds() {
		if impl.IdOk(x) {
			t.Errorf("IdOk(%v) = true", x)
		}
	}
}

func TestIdOkAtItsLimits(t *testing.T) {
	cases := []struct {
		x    impl.Id
		want bool
	}{
		{impl.Id{}, true},
		{impl.Id{Root: 7}, true},
		{impl.Id{Root: 8}, false},
		{impl.Id{Root: -1}, false},
		{impl.Id{Index: 1}, false},
		{impl.Id{Level: 1, Index: 1}, true},
		{impl.Id{Level: 1, Index: 2}, false},
		{impl.Id{Level: 2, Index: 3}, true},
		{impl.Id{Level: 2, Index: 4}, false},
		{impl.Id{Level: 3, Index: 7}, true},
		{impl.Id{Level: 3, Index: 8}, false},
		{impl.Id{Level: 4, Index: 15}, true},
		{impl.Id{Level: 4, Index: 16}, false},
		{impl.Id{Level: 4, Index: -1}, false},
		{impl.Id{Level: 5}, false},
		{impl.Id{Level: -1}, false},
		{impl.Id{Root: 7, Level: 4, Index: 15}, true},
	}
	for _, c := range cases {
		if got := impl.IdOk(c.x); got != c.want {
			t.Errorf("IdOk(%v) = %v; want %v", c.x, got, c.want)
		}
	}
}

// extremeCellNumbers holds numbers at and far beyond the limits of Root, Level and Index, among them shift counts and numbers whose multiples overflow.
func extremeCellNumbers() []int {
	return []int{
		math.MinInt, math.MinInt + 1, -1 << 62, -1 << 60, -1 << 32, -64, -16, -2, -1,
		0, 1, 2, 3, 4, 5, 6, 7, 8, 15, 16, 31, 62, 63, 64, 65,
		1 << 32, 1 << 59, 1 << 60, 1 << 62, math.MaxInt - 1, math.MaxInt,
	}
}

func TestExtremeCells(t *testing.T) {
	known := map[impl.Id]knownCell{}
	for _, c := range allCells() {
		known[c.id] = c
	}
	numbers := extremeCellNumbers()
	for _, root := range numbers {
		for _, level := range numbers {
			for _, index := range numbers {
				x := impl.Id{Root: root, Level: level, Index: index}
				c, valid := known[x]
				if impl.IdOk(x) != valid {
					t.Errorf("IdOk(%v) = %v", x, !valid)
				}
				if valid {
					wantStart(t, x, c.start)
				} else {
					wantNoRelatives(t, x)
				}
			}
		}
	}
}

func wantStart(t *testing.T, x impl.Id, want int) {
	t.Helper()
	if got := impl.StartOf(x); got != want {
		t.Errorf("StartOf(%v) = %d; want %d", x, got, want)
	}
}

func wantNoParent(t *testing.T, x impl.Id) {
	t.Helper()
	if got, ok := impl.ParentOf(x); got != (impl.Id{}) || ok {
		t.Errorf("ParentOf(%v) = %v, %v; want the zero Id, false", x, got, ok)
	}
}

func wantNoChild(t *testing.T, x impl.Id, side int) {
	t.Helper()
	if got, ok := impl.ChildOf(x, side); got != (impl.Id{}) || ok {
		t.Errorf("ChildOf(%v, %d) = %v, %v; want the zero Id, false", x, side, got, ok)
	}
}

// wantNoRelatives checks what every function returns for an invalid cell, alone and with itself.
func wantNoRelatives(t *testing.T, x impl.Id) {
	t.Helper()
	wantStart(t, x, -1)
	wantNoParent(t, x)
	for _, side := range []int{0, 1, -1, 2} {
		wantNoChild(t, x, side)
	}
	if impl.IsSibling(x, x) || impl.Contains(x, x) {
		t.Errorf("the invalid cell %v is a sibling of itself or contains itself", x)
	}
}

func TestInvalidCellsHaveNoRelatives(t *testing.T) {
	for _, x := range invalidIds() {
		wantNoRelatives(t, x)
	}
}

func TestWidthOf(t *testing.T) {
	cases := map[int]int{
		0: 16, 1: 8, 2: 4, 3: 2, 4: 1,
		5: 0, 6: 0, 31: 0, 63: 0, 64: 0, 65: 0, 1000: 0, math.MaxInt: 0,
		-1: 0, -2: 0, -4: 0, -64: 0, math.MinInt: 0, math.MinInt + 1: 0,
	}
	for level, want := range cases {
		if got := impl.WidthOf(level); got != want {
			t.Errorf("WidthOf(%d) = %d; want %d", level, got, want)
		}
	}
	for _, level := range extremeCellNumbers() {
		if want := cases[level]; impl.WidthOf(level) != want {
			t.Errorf("WidthOf(%d) = %d; want %d", level, impl.WidthOf(level), want)
		}
	}
}

func TestStartOf(t *testing.T) {
	for _, c := range allCells() {
		wantStart(t, c.id, c.start)
		if got := impl.WidthOf(c.id.Level); got != c.end-c.start {
			t.Errorf("the cell %v has the width %d; want %d", c.id, got, c.end-c.start)
		}
	}
	wantStart(t, impl.Id{}, 0)
	wantStart(t, impl.Id{Root: 7}, 112)
	wantStart(t, impl.Id{Root: 1, Level: 2, Index: 3}, 28)
	wantStart(t, impl.Id{Root: 7, Level: 4, Index: 15}, 127)
	wantStart(t, impl.Id{Root: 8}, -1)
	wantStart(t, impl.Id{Root: -1, Level: 4, Index: 15}, -1)
	wantStart(t, impl.Id{Level: 4, Index: 16}, -1)
	wantStart(t, impl.Id{Level: 5}, -1)
}

func TestParentOf(t *testing.T) {
	for _, c := range allCells() {
		if c.side < 0 {
			wantNoParent(t, c.id)
			continue
		}
		if got, ok := impl.ParentOf(c.id); got != c.parent || !ok {
			t.Errorf("ParentOf(%v) = %v, %v; want %v, true", c.id, got, ok, c.parent)
		}
	}
}

func TestChildOf(t *testing.T) {
	for _, c := range allCells() {
		if c.side < 0 {
			continue
		}
		if got, ok := impl.ChildOf(c.parent, c.side); got != c.id || !ok {
			t.Errorf("ChildOf(%v, %d) = %v, %v; want %v, true", c.parent, c.side, got, ok, c.id)
		}
	}
}

// TestChildOfAtTheDeepestLevel checks the deepest level, which has no children, and the level above it, which has.
func TestChildOfAtTheDeepestLevel(t *testing.T) {
	for root := 0; root < 8; root++ {
		for index := 0; index < 16; index++ {
			x := impl.Id{Root: root, Level: 4, Index: index}
			wantNoChild(t, x, 0)
			wantNoChild(t, x, 1)
			above := impl.Id{Root: root, Level: 3, Index: index / 2}
			if got, ok := impl.ChildOf(above, index%2); got != x || !ok {
				t.Errorf("ChildOf(%v, %d) = %v, %v; want %v, true", above, index%2, got, ok, x)
			}
		}
	}
}

func TestChildOfOtherSides(t *testing.T) {
	sides := []int{-1, -2, 2, 3, 4, 15, 256, 257, 1 << 32, 1<<32 + 1, -1 << 32, math.MinInt, math.MinInt + 1, math.MaxInt - 1, math.MaxInt}
	for _, c := range allCells() {
		for _, side := range sides {
			wantNoChild(t, c.id, side)
		}
	}
}

// TestChildrenDivideTheirCell states the promise itself: each position of a cell is in exactly one of its children, and no other one is.
func TestChildrenDivideTheirCell(t *testing.T) {
	for _, c := range allCells() {
		left, okLeft := impl.ChildOf(c.id, 0)
		right, okRight := impl.ChildOf(c.id, 1)
		if has := c.id.Level < 4; okLeft != has || okRight != has {
			t.Errorf("the cell %v has the children %v, %v", c.id, okLeft, okRight)
		}
		if !okLeft || !okRight {
			continue
		}
		start, end := impl.StartOf(c.id), impl.StartOf(c.id)+impl.WidthOf(c.id.Level)
		for pos := -2; pos < 130; pos++ {
			count := 0
			for _, x := range []impl.Id{left, right} {
				if from := impl.StartOf(x); from <= pos && pos < from+impl.WidthOf(x.Level) {
					count++
				}
			}
			if inside := start <= pos && pos < end; inside != (count == 1) || count > 1 {
				t.Errorf("the position %d is in %d children of %v", pos, count, c.id)
			}
		}
		wantFamily(t, c.id, left, right)
	}
}

func wantFamily(t *testing.T, x impl.Id, left impl.Id, right impl.Id) {
	t.Helper()
	if !impl.IdOk(left) || !impl.IdOk(right) || !impl.IsSibling(left, right) || impl.IsSibling(right, left) {
		t.Errorf("the children %v and %v of %v are not siblings in this order alone", left, right, x)
	}
	if impl.WidthOf(left.Level) != impl.WidthOf(right.Level) || impl.StartOf(left) >= impl.StartOf(right) {
		t.Errorf("the children %v and %v of %v are not its left and its right half", left, right, x)
	}
	for _, child := range []impl.Id{left, right} {
		if p, ok := impl.ParentOf(child); p != x || !ok {
			t.Errorf("ParentOf(%v) = %v, %v; want %v, true", child, p, ok, x)
		}
		if !impl.Contains(x, child) || impl.Contains(child, x) {
			t.Errorf("the child %v does not lie within %v, or contains it", child, x)
		}
	}
}

func TestPairsOfCells(t *testing.T) {
	cells := allCells()
	for _, a := range cells {
		for _, b := range cells {
			siblings := a.side == 0 && b.side == 1 && a.parent == b.parent
			if got := impl.IsSibling(a.id, b.id); got != siblings {
				t.Errorf("IsSibling(%v, %v) = %v", a.id, b.id, got)
			}
			// Two cells with a common position lie within each other in one direction, so their ends decide.
			within := a.start <= b.start && b.end <= a.end
			if got := impl.Contains(a.id, b.id); got != within {
				t.Errorf("Contains(%v, %v) = %v", a.id, b.id, got)
			}
		}
	}
}

func TestIsSibling(t *testing.T) {
	cases := []struct {
		a, b impl.Id
		want bool
	}{
		{impl.Id{Level: 1}, impl.Id{Level: 1, Index: 1}, true},
		{impl.Id{Level: 1, Index: 1}, impl.Id{Level: 1}, false},
		{impl.Id{Level: 1}, impl.Id{Level: 1}, false},
		{impl.Id{Level: 2, Index: 1}, impl.Id{Level: 2, Index: 2}, false},
		{impl.Id{Level: 2, Index: 2}, impl.Id{Level: 2, Index: 3}, true},
		{impl.Id{Level: 2}, impl.Id{Level: 2, Index: 3}, false},
		{impl.Id{Root: 7, Level: 4, Index: 14}, impl.Id{Root: 7, Level: 4, Index: 15}, true},
		{impl.Id{Root: 7, Level: 4, Index: 15}, impl.Id{Root: 7, Level: 4, Index: 14}, false},
		{impl.Id{Level: 4, Index: 14}, impl.Id{Root: 1, Level: 4, Index: 15}, false},
		{impl.Id{Root: 1, Level: 1}, impl.Id{Level: 1, Index: 1}, false},
		{impl.Id{Level: 1}, impl.Id{Level: 2, Index: 1}, false},
		{impl.Id{Level: 2}, impl.Id{Level: 1, Index: 1}, false},
		{impl.Id{}, impl.Id{}, false},
		{impl.Id{}, impl.Id{Root: 1}, false},
	}
	for _, c := range cases {
		if got := impl.IsSibling(c.a, c.b); got != c.want {
			t.Errorf("IsSibling(%v, %v) = %v; want %v", c.a, c.b, got, c.want)
		}
	}
}

// TestIsSiblingOfInvalidCells checks pairs that would be siblings if their numbers were not out of range.
func TestIsSiblingOfInvalidCells(t *testing.T) {
	pairs := [][2]impl.Id{
		{{}, {Index: 1}},
		{{Level: 5}, {Level: 5, Index: 1}},
		{{Level: 5, Index: 30}, {Level: 5, Index: 31}},
		{{Level: -1}, {Level: -1, Index: 1}},
		{{Root: -1, Level: 1}, {Root: -1, Level: 1, Index: 1}},
		{{Root: 8, Level: 1}, {Root: 8, Level: 1, Index: 1}},
		{{Level: 1, Index: 2}, {Level: 1, Index: 3}},
		{{Level: 4, Index: 16}, {Level: 4, Index: 17}},
		{{Level: 4, Index: -2}, {Level: 4, Index: -1}},
		{{Level: 1, Index: -1}, {Level: 1, Index: 1}},
		{{Level: 4, Index: -1}, {Level: 4}},
		{{Level: 4, Index: math.MinInt}, {Level: 4, Index: math.MinInt + 1}},
		{{Level: 4, Index: math.MaxInt - 1}, {Level: 4, Index: math.MaxInt}},
		{{Level: 4, Index: math.MaxInt}, {Level: 4, Index: math.MinInt}},
		{{Root: math.MaxInt, Level: 1}, {Root: math.MaxInt, Level: 1, Index: 1}},
		{{Root: math.MinInt, Level: 1}, {Root: math.MinInt, Level: 1, Index: 1}},
		{{Level: math.MaxInt}, {Level: math.MaxInt, Index: 1}},
		{{Level: math.MinInt}, {Level: math.MinInt, Index: 1}},
	}
	for _, p := range pairs {
		if impl.IsSibling(p[0], p[1]) || impl.IsSibling(p[1], p[0]) {
			t.Errorf("IsSibling of %v and %v is true", p[0], p[1])
		}
	}
}

func TestContains(t *testing.T) {
	cases := []struct {
		a, b impl.Id
		want bool
	}{
		{impl.Id{}, impl.Id{}, true},
		{impl.Id{}, impl.Id{Level: 1}, true},
		{impl.Id{}, impl.Id{Level: 4, Index: 15}, true},
		{impl.Id{Level: 4, Index: 15}, impl.Id{}, false},
		{impl.Id{Root: 1}, impl.Id{Level: 4, Index: 15}, false},
		{impl.Id{}, impl.Id{Root: 1}, false},
		{impl.Id{Level: 1}, impl.Id{Level: 1, Index: 1}, false},
		{impl.Id{Level: 1, Index: 1}, impl.Id{Level: 1}, false},
		{impl.Id{Level: 1}, impl.Id{Level: 4, Index: 7}, true},
		{impl.Id{Level: 1}, impl.Id{Level: 4, Index: 8}, false},
		{impl.Id{Level: 1, Index: 1}, impl.Id{Level: 4, Index: 8}, true},
		{impl.Id{Level: 2, Index: 1}, impl.Id{Level: 3, Index: 1}, false},
		{impl.Id{Root: 2, Level: 1}, impl.Id{Root: 3, Level: 2, Index: 1}, false},
		{impl.Id{Root: 7, Level: 3, Index: 7}, impl.Id{Root: 7, Level: 4, Index: 15}, true},
		{impl.Id{Root: 7, Level: 4, Index: 15}, impl.Id{Root: 7, Level: 4, Index: 15}, true},
	}
	for _, c := range cases {
		if got := impl.Contains(c.a, c.b); got != c.want {
			t.Errorf("Contains(%v, %v) = %v; want %v", c.a, c.b, got, c.want)
		}
	}
}

// TestDeepestCellsAreInOneCellOfEachLevel checks Contains against the division of a root by its levels.
func TestDeepestCellsAreInOneCellOfEachLevel(t *testing.T) {
	for root := 0; root < 8; root++ {
		for index := 0; index < 16; index++ {
			x := impl.Id{Root: root, Level: 4, Index: index}
			var holders [5]int
			for _, c := range allCells() {
				if impl.Contains(c.id, x) {
					holders[c.id.Level]++
				}
			}
			if holders != [5]int{1, 1, 1, 1, 1} {
				t.Errorf("the cell %v lies within %v cells of the levels", x, holders)
			}
		}
	}
}

// TestPairsWithInvalidCells checks both orders, because the valid cell may be the first or the second argument.
func TestPairsWithInvalidCells(t *testing.T) {
	invalid := invalidIds()
	for _, x := range invalid {
		for _, c := range allCells() {
			if impl.IsSibling(x, c.id) || impl.IsSibling(c.id, x) {
				t.Errorf("IsSibling of %v and %v is true", x, c.id)
			}
			if impl.Contains(x, c.id) || impl.Contains(c.id, x) {
				t.Errorf("Contains of %v and %v is true", x, c.id)
			}
		}
		for _, y := range invalid {
			if impl.IsSibling(x, y) || impl.Contains(x, y) {
				t.Errorf("IsSibling or Contains of %v and %v is true", x, y)
			}
		}
	}
}

// TestContainsOfInvalidCells checks pairs that would lie within each other if their numbers were not out of range.
func TestContainsOfInvalidCells(t *testing.T) {
	pairs := [][2]impl.Id{
		{{}, {Level: 5}},
		{{}, {Level: 5, Index: 31}},
		{{}, {Level: 4, Index: 16}},
		{{}, {Level: 4, Index: -1}},
		{{Level: 4}, {Level: 5}},
		{{Level: 4}, {Level: 5, Index: 1}},
		{{Level: -1}, {}},
		{{Level: math.MinInt}, {}},
		{{}, {Level: math.MaxInt}},
		{{}, {Level: math.MaxInt, Index: math.MaxInt}},
		{{Level: 5}, {Level: 5}},
		{{Root: -1}, {Root: -1, Level: 1}},
		{{Root: 8}, {Root: 8, Level: 1}},
		{{Level: 1, Index: 2}, {Level: 2, Index: 4}},
		{{Index: -1}, {Level: 1, Index: -1}},
		{{Index: math.MinInt}, {Index: math.MinInt}},
	}
	for _, p := range pairs {
		if impl.Contains(p[0], p[1]) {
			t.Errorf("Contains(%v, %v) = true", p[0], p[1])
		}
	}
}
