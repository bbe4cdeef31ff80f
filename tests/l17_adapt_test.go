package tests

import (
	"iter"
	"math"
	"slices"
	"strings"
	"testing"

	"loop.example/g00982/impl"
)

// An adaptCount says how often the steps of AdaptState have done something, and how often a pair with both wishes has
// been refused in the third one.
type adaptCount struct{ refined, balanced, coarsened, refused int }

// adaptPlain is the oracle of AdaptState. It keeps the wishes in a list beside the leaves, in which a new leaf has none,
// and refines from the end, so that the indices of the leaves that are still to be refined do not change.
func adaptPlain(p plainState, b bounds, byText map[string]rootShape) (plainState, adaptCount) {
	wishes := plainWishes(p, b)
	count := adaptCount{}
	split := func(i int) {
		p, _ = splitPlain(p, i)
		wishes = replaced(wishes, i, 1, 0, 0)
	}
	for i := len(wishes) - 1; i >= 0; i-- {
		if wishes[i] == 1 {
			split(i)
			count.refined++
		}
	}
	for at := textUneven(p.text); at >= 0; at = textUneven(p.text) {
		split(coarserDigit(p.text, at))
		count.balanced++
	}
	for i := 0; i < len(wishes)-1; i++ {
		if wishes[i] != -1 || wishes[i+1] != -1 {
			continue
		}
		coarser, ok := coarsenedPlain(p, i, byText)
		if !ok {
			count.refused++
			continue
		}
		p, wishes = coarser, replaced(wishes, i, 2, 0)
		count.coarsened++
	}
	return p, count
}

// plainContent returns what a cell, given by its start and width, has in a state with these sides: what the leaves
// within it have, or its part of what its parent has.
func plainContent(p plainState, sides []plainSide, start int, width int) blend {
	sum, found, pos := blend{}, false, 0
	for i, side := range sides {
		if pos >= start && pos+side.width <= start+width {
			sum.mass += p.mass[i]
			sum.tracer += p.tracer[i]
			found = true
		}
		pos += side.width
	}
	if found {
		return sum
	}
	whole := plainContent(p, sides, start-start%(2*width), 2*width)
	left := blend{mass: (whole.mass + 1) / 2}
	if whole.mass > 0 {
		left.tracer = exactShare(whole.tracer, left.mass, whole.mass)
	}
	if start%(2*width) == 0 {
		return left
	}
	return blend{whole.tracer - left.tracer, whole.mass - left.mass}
}

// remapPlain is the oracle of RemapState: it knows no order, and asks for each leaf of the new mesh alone.
func remapPlain(p plainState, text string) plainState {
	remapped := plainState{text: text, bed: p.bed}
	sides := plainSides(p)
	pos := 0
	for _, place := range leafDigits(text) {
		width := plainPeriod(int(text[place] - '0'))
		content := plainContent(p, sides, pos, width)
		remapped.mass = append(remapped.mass, content.mass)
		remapped.tracer = append(remapped.tracer, content.tracer)
		pos += width
	}
	return remapped
}

// digitsByPosition returns, for each position, the digit of the leaf that contains it.
func digitsByPosition(text string) string {
	var digits strings.Builder
	for _, place := range leafDigits(text) {
		digits.WriteString(strings.Repeat(text[place:place+1], plainPeriod(int(text[place]-'0'))))
	}
	return digits.String()
}

// finerText is the oracle of IsFinerEverywhere for valid meshes: it goes from position to position.
func finerText(a string, b string) bool {
	fine, coarse := digitsByPosition(a), digitsByPosition(b)
	if len(fine) != len(coarse) {
		return false
	}
	for pos := range len(fine) {
		if fine[pos] < coarse[pos] {
			return false
		}
	}
	return true
}

// wantAdapt checks AdaptState, and that what is wanted is what each leaf has in the mesh that results.
func wantAdapt(t *testing.T, p plainState, b bounds, want plainState, byText map[string]rootShape) {
	t.Helper()
	s, after := p.state(t, byText), want.state(t, byText)
	if got := impl.AdaptState(s, b.high, b.low); !sameAsState(got, after) {
		t.Fatalf("AdaptState of %q, %v, above %d and below %d is %q, %v; want %q, %v", p.text, s, b.high, b.low, impl.FormatMesh(got.Mesh), got, want.text, after)
	}
	if moved := remapPlain(p, want.text).state(t, byText); !sameAsState(moved, after) {
		t.Fatalf("in the mesh %q the leaves of %q, %v, have %v; want %v", want.text, p.text, s, moved, after)
	}
}

// wantPlainAdapt compares AdaptState with its oracle.
func wantPlainAdapt(t *testing.T, p plainState, b bounds, byText map[string]rootShape) adaptCount {
	t.Helper()
	want, count := adaptPlain(p, b, byText)
	wantAdapt(t, p, b, want, byText)
	return count
}

// wantNoAdapt checks that AdaptState returns a state unchanged, whatever the thresholds are.
func wantNoAdapt(t *testing.T, s impl.State, list ...bounds) {
	t.Helper()
	for _, b := range list {
		if got := impl.AdaptState(s, b.high, b.low); !sameAsState(got, s) {
			t.Fatalf("AdaptState(%v, %d, %d) = %v; want it unchanged", s, b.high, b.low, got)
		}
	}
}

// someBounds returns thresholds under which leaves of a valid state would become finer or coarser.
func someBounds() []bounds {
	return []bounds{{0, 0}, {-1, 0}, {-1, 1}, {100, 50}, {math.MaxInt, math.MaxInt}, {math.MinInt, math.MaxInt}, {math.MinInt, math.MinInt}, {math.MaxInt, math.MinInt}}
}

func wantRemap(t *testing.T, s impl.State, m impl.Mesh, want impl.State) {
	t.Helper()
	if got, ok := impl.RemapState(s, m); !ok || !sameAsState(got, want) {
		t.Fatalf("RemapState of %q, %v, to %q is %v, %v; want %v", impl.FormatMesh(s.Mesh), s, impl.FormatMesh(m), got, ok, want)
	}
}

// wantPlainRemap compares RemapState with its oracle, for a balanced mesh of as many roots.
func wantPlainRemap(t *testing.T, p plainState, text string, byText map[string]rootShape) {
	t.Helper()
	wantRemap(t, p.state(t, byText), meshWithText(t, text, byText), remapPlain(p, text).state(t, byText))
}

func wantNoRemap(t *testing.T, s impl.State, m impl.Mesh) {
	t.Helper()
	if got, ok := impl.RemapState(s, m); ok || !sameAsState(got, impl.State{}) {
		t.Fatalf("RemapState(%v, %v) = %v, %v; want the zero state and false", s, m, got, ok)
	}
}

func wantFiner(t *testing.T, a impl.Mesh, b impl.Mesh, want bool) {
	t.Helper()
	if got := impl.IsFinerEverywhere(a, b); got != want {
		t.Fatalf("IsFinerEverywhere of %q, %v, and %q, %v, is %v", impl.FormatMesh(a), a, impl.FormatMesh(b), b, got)
	}
}

// An adaptCase is a state given by the surfaces of its leaves, with the wishes that they have above 100 and below 10.
// A jump of 48 is between them.
type adaptCase struct {
	name     string
	text     string
	surfaces []int
	wishes   string // "+", "0" or "-" for each leaf
	want     string
}

// surfacePlain returns the state whose leaves have these surfaces, over beds that differ, with tracer of many shares.
func surfacePlain(t *testing.T, text string, surfaces []int) plainState {
	t.Helper()
	places := leafDigits(text)
	if len(places) != len(surfaces) {
		t.Fatalf("%q has not the %d surfaces %v", text, len(surfaces), surfaces)
	}
	p := plainState{text: text}
	for root := range strings.Count(text, "|") + 1 {
		p.bed = append(p.bed, 16*(root+1))
	}
	for i, place := range places {
		p.mass = append(p.mass, (surfaces[i]-p.bed[strings.Count(text[:place], "|")])>>(text[place]-'0'))
	}
	for i, side := range plainSides(p) {
		if side.surface != surfaces[i] {
			t.Fatalf("%d is no surface of the leaf %d of %q", surfaces[i], i, text)
		}
	}
	return brewedPlain(p)
}

// wishText writes the wishes as an adaptCase has them.
func wishText(wishes []int) string {
	var text strings.Builder
	for _, wish := range wishes {
		text.WriteByte("-0+"[wish+1])
	}
	return text.String()
}

func wantAdaptCases(t *testing.T, b bounds, cases []adaptCase) {
	t.Helper()
	byText := shapesByText()
	for _, c := range cases {
		t.Run(c.name, func(t *testing.T) {
			p := surfacePlain(t, c.text, c.surfaces)
			if wishes := wishText(impl.Wishes(p.state(t, byText), b.high, b.low)); wishes != c.wishes {
				t.Fatalf("the wishes of %v are %q; want %q", p, wishes, c.wishes)
			}
			wantAdapt(t, p, b, remapPlain(p, c.want), byText)
		})
	}
}

// TestPairsWithOneWish has pairs of which one leaf has the wish -1, and the other one stays, is refined, or has it, too.
func TestPairsWithOneWish(t *testing.T) {
	numbers := func(n ...int) []int { return n }
	wantAdaptCases(t, bounds{100, 10}, []adaptCase{
		{"both", "11", numbers(800, 800), "--", "0"},
		{"neither", "11", numbers(800, 848), "00", "11"},
		{"the left one", "11|0", numbers(800, 800, 848), "-00", "11|0"},
		{"the right one", "0|11", numbers(848, 800, 800), "00-", "0|11"},
		{"the left one, and the right one is refined", "11|0", numbers(800, 800, 1104), "-++", "122|11"},
		{"the right one, and the left one is refined", "0|11", numbers(1104, 800, 800), "++-", "11|221"},
		{"both of a pair are refined", "11", numbers(800, 1104), "++", "2222"},
		{"the left one of a pair, and the right one of another", "2222", numbers(800, 800, 848, 848), "-00-", "2222"},
		{"the left one in the level 2", "122|11", numbers(800, 800, 800, 848, 848), "--00-", "122|11"},
		{"the right one in the level 2", "11|221", numbers(848, 848, 800, 800, 800), "-00--", "11|221"},
		{"the left one in the level 3", "1233", numbers(848, 800, 800, 800), "00--", "122"},
		{"the left one, before a pair with both", "2222|2222", numbers(800, 800, 848, 848, 848, 848, 848, 848), "-00-----", "2222|11"},
		{"the right one, behind a pair with both", "2222|2222", numbers(848, 848, 848, 848, 848, 848, 800, 800), "-----00-", "11|2222"},
		{"single ones in the deepest level", strings.Repeat("4", 16), append(numbers(800, 800), slices.Repeat(numbers(848), 14)...), "-00" + strings.Repeat("-", 13), "4444333333"},
	})
}

// TestPairsThatAreRefused has pairs with both wishes and a finer neighbour.
func TestPairsThatAreRefused(t *testing.T) {
	numbers := func(n ...int) []int { return n }
	wantAdaptCases(t, bounds{100, 10}, []adaptCase{
		{"a finer neighbour on the right", "22332", numbers(800, 800, 800, 848, 848), "--00-", "22332"},
		{"a finer neighbour on the left", "23322", numbers(848, 848, 800, 800, 800), "-00--", "23322"},
		{"a finer neighbour beyond the border on the right", "11|221", numbers(800, 800, 800, 848, 848), "--00-", "11|221"},
		{"a finer neighbour beyond the border on the left", "122|11", numbers(848, 848, 800, 800, 800), "-00--", "122|11"},
		{"a neighbour on the right that step 1 refines", "2222", numbers(800, 800, 800, 1104), "--++", "223333"},
		{"a neighbour on the left that step 1 refines", "2222", numbers(1104, 800, 800, 800), "++--", "333322"},
		{"a neighbour beyond the border that step 1 refines", "11|11", numbers(800, 800, 800, 1104), "--++", "11|2222"},
		{"a neighbour beyond the border on the left that step 1 refines", "11|11", numbers(1104, 800, 800, 800), "++--", "2222|11"},
		{"a neighbour on the right that step 2 refines", "22233", numbers(800, 800, 800, 800, 1104), "---++", "22334444"},
		{"a neighbour on the left that step 2 refines", "33222", numbers(1104, 800, 800, 800, 800), "++---", "44443322"},
		{"neighbours on both sides that step 1 refines", "11|11|11", numbers(1104, 800, 800, 800, 800, 1104), "++--++", "2222|11|2222"},
		{"a pair beside one that is refused because of step 1, on its right", "2222|2222", numbers(1104, 800, 800, 800, 800, 800, 800, 800), "++------", "333322|11"},
		{"a pair beside one that is refused because of step 1, on its left", "2222|2222", numbers(800, 800, 800, 800, 800, 800, 800, 1104), "------++", "11|223333"},
		{"a coarser neighbour, which refuses nothing", "122", numbers(800, 800, 800), "---", "11"},
		{"a coarser neighbour that step 1 refines, which refuses nothing", "0|11|11", numbers(1104, 800, 800, 800, 800), "++---", "11|221|0"},
		{"a neighbour of Level 0 that step 1 refines, which refuses nothing", "0|0|11", numbers(1104, 800, 800, 800), "++--", "11|11|0"},
	})
}

// TestPairsThatStepTwoDivides has pairs with both wishes, one or both leaves of which must be refined for the balance.
func TestPairsThatStepTwoDivides(t *testing.T) {
	numbers := func(n ...int) []int { return n }
	wantAdaptCases(t, bounds{100, 10}, []adaptCase{
		{"the right one", "22332", numbers(800, 800, 800, 1104, 1104), "--++-", "233444433"},
		{"the left one", "23322", numbers(1104, 1104, 800, 800, 800), "-++--", "334444332"},
		{"both", "122|11|221", numbers(1104, 1104, 800, 800, 800, 800, 1104, 1104), "-++--++-", "223333|2222|333322"},
		{"a single leaf between a pair and a leaf that is refined", "332332", numbers(800, 800, 800, 800, 1104, 1104), "---++-", "233444433"},
		{"a single leaf on the other side of a pair", "233233", numbers(1104, 1104, 800, 800, 800, 800), "-++---", "334444332"},
	})
}

// TestLeavesThatAreNoPair has leaves with the wish -1 side by side that are no siblings, or not both leaves of the state before.
func TestLeavesThatAreNoPair(t *testing.T) {
	numbers := func(n ...int) []int { return n }
	wantAdaptCases(t, bounds{100, 10}, []adaptCase{
		{"leaves of one level with different parents", "11|2222|11", numbers(848, 848, 800, 800, 800, 800, 848, 848), "-00--00-", "11|2222|11"},
		{"leaves of one level in two roots", "221|122", numbers(848, 800, 800, 800, 800, 848), "00--00", "221|122"},
		{"leaves of different levels", "122|11", numbers(800, 800, 800, 848, 848), "--00-", "122|11"},
		{"leaves of different levels, the finer one on the left", "11|221", numbers(848, 848, 800, 800, 800), "-00--", "11|221"},
		{"roots", "0|0|0", numbers(800, 800, 800), "000", "0|0|0"},
		{"a leaf that step 1 has made, on the left", "0|0|11", numbers(800, 1104, 1104, 1104), "++--", "11|11|0"},
		{"a leaf that step 2 has made, on the left of a pair", "233233", numbers(1104, 1104, 800, 800, 800, 800), "-++---", "334444332"},
		{"two pairs that become one", "2222", numbers(800, 800, 800, 800), "----", "11"},
		{"a pair that becomes the right one of another", "122", numbers(800, 800, 800), "---", "11"},
		{"a pair that becomes the left one of another", "221", numbers(800, 800, 800), "---", "11"},
		{"pairs that become the right one of each other", "12344", numbers(800, 800, 800, 800, 800), "-----", "1233"},
		{"pairs that become the left one of each other", "44321", numbers(800, 800, 800, 800, 800), "-----", "3321"},
		{"two pairs that become one, and another one", "333322", numbers(800, 800, 800, 800, 800, 800), "------", "221"},
		{"another pair, and two that become one", "223333", numbers(800, 800, 800, 800, 800, 800), "------", "2222"},
	})
	wantAdaptCases(t, bounds{100, 400}, []adaptCase{
		{"a leaf that step 1 has made beside one of the same level with the wish -1", "3443322", numbers(1104, 800, 800, 800, 800, 800, 800), "+------", "44321"},
		{"a leaf that step 1 has made on the other side of one", "2233443", numbers(800, 800, 800, 800, 800, 800, 1104), "------+", "2233344"},
	})
}

// TestSeveralPairsInARow coarsens each pair once, from left to right: a pair on the right of a finer one is coarsened
// after it, and a pair on the left of a finer one is not asked again.
func TestSeveralPairsInARow(t *testing.T) {
	numbers := func(n ...int) []int { return n }
	still := func(count int) []int { return slices.Repeat(numbers(800), count) }
	wishes := func(count int) string { return strings.Repeat("-", count) }
	wantAdaptCases(t, bounds{100, 10}, []adaptCase{
		{"two pairs", "2222", still(4), wishes(4), "11"},
		{"pairs of the deepest level", strings.Repeat("4", 16), still(16), wishes(16), "33333333"},
		{"pairs of the level 3", strings.Repeat("3", 8), still(8), wishes(8), "2222"},
		{"pairs of eight roots", "11|11|11|11|11|11|11|11", still(16), wishes(16), "0|0|0|0|0|0|0|0"},
		{"pairs behind a single leaf", "1233|3321", still(8), wishes(8), "122|221"},
		{"a pair on the right of a finer one", "23322", still(5), wishes(5), "221"},
		{"a pair on the left of a finer one", "22332", still(5), wishes(5), "2222"},
		{"pairs on the right of finer ones", "3443322", still(7), wishes(7), "3321"},
		{"pairs on the left of finer ones", "2233443", still(7), wishes(7), "223333"},
		{"a root on the right of a finer one", "2222|11", still(6), wishes(6), "11|0"},
		{"a root on the left of a finer one", "11|2222", still(6), wishes(6), "11|11"},
		{"a root between finer ones", "2222|11|2222", still(10), wishes(10), "11|11|11"},
		{"roots beside a finer one", "11|2222|11", still(8), wishes(8), "11|11|0"},
		{"a root of one leaf between pairs", "11|0|11", still(5), "--0--", "0|0|0"},
		{"pairs between leaves that stay", "11|1233|3321|11", numbers(848, 800, 800, 800, 800, 800, 800, 800, 800, 800, 800, 848), "00--------00", "11|122|221|11"},
	})
}

func TestLeavesThatBecomeFiner(t *testing.T) {
	numbers := func(n ...int) []int { return n }
	wantAdaptCases(t, bounds{100, 0}, []adaptCase{
		{"one leaf, which has no jump", "0", numbers(800), "0", "0"},
		{"two leaves", "0|0", numbers(800, 1104), "++", "11|11"},
		{"the first leaf and its neighbour", "0|0|0", numbers(1104, 800, 800), "++0", "11|11|0"},
		{"the last leaf and its neighbour", "0|0|0", numbers(800, 800, 1104), "0++", "0|11|11"},
		{"a leaf in the middle and its neighbours", "0|0|0|0|0", numbers(800, 800, 1104, 800, 800), "0+++0", "0|11|11|11|0"},
		{"several leaves side by side", "0|0|0|0", numbers(800, 1104, 1408, 1712), "++++", "11|11|11|11"},
		{"several leaves of one root", "2222", numbers(800, 1104, 800, 1104), "++++", "33333333"},
		{"leaves of different levels", "1233", numbers(800, 1104, 800, 1104), "++++", "22334444"},
		{"leaves far from each other", "0|0|0|0|0|0", numbers(1104, 800, 800, 800, 800, 1104), "++00++", "11|11|0|0|11|11"},
		{"all leaves below the deepest level", strings.Repeat("3", 8), numbers(800, 1104, 800, 1104, 800, 1104, 800, 1104), "++++++++", strings.Repeat("4", 16)},
		{"leaves of the deepest level, which stay", strings.Repeat("4", 16), slices.Repeat(numbers(800, 1104), 8), strings.Repeat("0", 16), strings.Repeat("4", 16)},
		{"leaves of the deepest level beside one that is refined", "12344", numbers(800, 800, 1104, 800, 1104), "0++00", "22334444"},
		{"a leaf of the deepest level between others and a root", "12344|3321", numbers(800, 800, 800, 800, 1104, 800, 800, 800, 800), "0000" + "0+000", "12344|44321"},
	})
	wantAdaptCases(t, bounds{100, 1000}, []adaptCase{
		{"leaves of the deepest level, for which high does not count", strings.Repeat("4", 16), slices.Repeat(numbers(800, 1104), 8), strings.Repeat("-", 16), "33333333"},
		{"leaves of Level 0, for which low does not count", "0|0|0", numbers(800, 800, 848), "000", "0|0|0"},
		{"leaves of other levels, for which high counts first", "11|2222", numbers(800, 1104, 800, 1104, 800, 1104), "++++++", "2222|33333333"},
	})
}

// TestRefinementsThatAskForOthers has meshes that step 1 leaves unbalanced.
func TestRefinementsThatAskForOthers(t *testing.T) {
	numbers := func(n ...int) []int { return n }
	wantAdaptCases(t, bounds{100, 0}, []adaptCase{
		{"one leaf on the left", "122", numbers(800, 800, 1104), "0++", "223333"},
		{"one leaf on the right", "221", numbers(1104, 800, 800), "++0", "333322"},
		{"one root on the left", "0|11", numbers(800, 800, 1104), "0++", "11|2222"},
		{"one root on the right", "11|0", numbers(1104, 800, 800), "++0", "2222|11"},
		{"several leaves on the left, across roots", "0|1233", numbers(800, 800, 800, 800, 1104), "000++", "11|22334444"},
		{"several leaves on the right, across roots", "3321|0", numbers(1104, 800, 800, 800, 800), "++000", "44443322|11"},
		{"several leaves on both sides", "0|1233|3321|0", numbers(800, 800, 800, 800, 1104, 800, 1104, 1104, 1104, 1104), "000++++000", "11|22334444|44443322|11"},
		{"a chain that ends before the next root", "11|1233", numbers(800, 800, 800, 800, 800, 1104), "0000++", "11|22334444"},
		{"chains from both sides", "122|11|221", numbers(1104, 1104, 800, 800, 800, 800, 1104, 1104), "0++00++0", "223333|2222|333322"},
		{"a leaf that is refined in any case", "122", numbers(1104, 800, 800), "++0", "22332"},
		{"a chain beside roots that stay", "0|0|1233|3321|0", numbers(800, 800, 800, 800, 800, 1104, 1104, 1104, 1104, 1104, 1104), "0000++00000", "0|11|22334444|3321|0"},
	})
}

// A movedCase is a change of the mesh of a state, with all numbers.
type movedCase struct {
	name         string
	text         string
	mass, tracer []int
	wantText     string
	wantMass     []int
	wantTracer   []int
}

func (c movedCase) plains(bed []int) (plainState, plainState) {
	roots := strings.Count(c.text, "|") + 1
	return plainState{c.text, c.mass, c.tracer, bed[:roots]}, plainState{c.wantText, c.wantMass, c.wantTracer, bed[:roots]}
}

func TestWhatLeavesHaveAfterAdaptation(t *testing.T) {
	byText := shapesByText()
	numbers := func(n ...int) []int { return n }
	flat := make([]int, 8)
	for _, c := range []struct {
		b bounds
		movedCase
	}{
		{bounds{700, 0}, movedCase{"the given example", "122", numbers(400, 0, 7), numbers(1000, 0, 21), "22332", numbers(200, 200, 0, 0, 7), numbers(500, 500, 0, 0, 21)}},
		{bounds{100, 5}, movedCase{"the other given example", "2222", numbers(1, 1, 1, 1), numbers(0, 0, 0, 0), "11", numbers(2, 2), numbers(0, 0)}},
		{bounds{-1, 0}, movedCase{"all leaves refined", "122", numbers(49, 24, 25), numbers(0, 13, 25000), "223333", numbers(25, 24, 12, 12, 13, 12), numbers(0, 0, 6, 7, 13000, 12000)}},
		{bounds{-1, 0}, movedCase{"one leaf refined", "0", numbers(7), numbers(10), "11", numbers(4, 3), numbers(5, 5)}},
		{bounds{5, 3}, movedCase{"a jump below low", "11", numbers(3, 4), numbers(3000, 0), "0", numbers(7), numbers(3000)}},
		{bounds{5, 2}, movedCase{"a jump equal to low", "11", numbers(3, 4), numbers(3000, 0), "11", numbers(3, 4), numbers(3000, 0)}},
		{bounds{2, 2}, movedCase{"a jump equal to high", "11", numbers(3, 4), numbers(3000, 0), "11", numbers(3, 4), numbers(3000, 0)}},
		{bounds{1, 3}, movedCase{"a jump above high and below low", "11", numbers(3, 4), numbers(3000, 0), "2222", numbers(2, 1, 2, 2), numbers(2000, 1000, 0, 0)}},
		{bounds{15, 0}, movedCase{"a chain of refinements", "0|1233", numbers(9, 7, 5, 3, 1), numbers(9000, 10, 3, 1, 1000), "11|22334444", numbers(5, 4, 4, 3, 3, 2, 2, 1, 1, 0), numbers(5000, 4000, 5, 5, 1, 2, 0, 1, 1000, 0)}},
		{bounds{500, 5}, movedCase{"leaves refined and a pair coarsened", "2222|2222", numbers(101, 101, 101, 300, 300, 300, 300, 301), numbers(7, 9, 11, 13, 0, 5, 300000, 1), "223333|221", numbers(101, 101, 51, 50, 150, 150, 300, 300, 601), numbers(7, 9, 5, 6, 6, 7, 0, 5, 300001)}},
		{bounds{0, 1}, movedCase{"empty leaves", "11", numbers(0, 0), numbers(0, 0), "0", numbers(0), numbers(0)}},
		{bounds{0, 1}, movedCase{"the greatest total and tracer", "11", numbers(5000000, 5000000), numbers(5000000000, 5000000000), "0", numbers(10000000), numbers(10000000000)}},
		{bounds{0, 1}, movedCase{"the greatest total and tracer, refined", "11", numbers(0, 10000000), numbers(0, 10000000000), "2222", numbers(0, 0, 5000000, 5000000), numbers(0, 0, 5000000000, 5000000000)}},
	} {
		t.Run(c.name, func(t *testing.T) {
			p, want := c.plains(flat)
			wantAdapt(t, p, c.b, want, byText)
		})
	}
}

// mixedBounds returns thresholds under which some leaves of a state become finer and others coarser.
func mixedBounds(p plainState, n int) []bounds {
	jumps := plainJumps(p)
	slices.Sort(jumps)
	least, low, middle, high := jumps[0], jumps[len(jumps)/3], jumps[len(jumps)/2], jumps[len(jumps)*3/4]
	around := boundsAround(middle)
	extreme := extremeBounds()
	return []bounds{{high, high}, {high, middle}, {middle, middle + 1}, {high, low + 1}, {least, high}, around[n%len(around)], extreme[n%len(extreme)]}
}

// rippledPlains returns lakes in which a few leaves differ from the others, so that most pairs have the wish -1.
func rippledPlains() []plainState {
	var states []plainState
	for n, p := range balancedPlains() {
		// In this lake each leaf of the deepest level has a mass of 60.
		rippled := lakePlain(p.text, make([]int, len(p.bed)), 960)
		for k := range 1 + n%3 {
			rippled.mass[(n*7+k*k*5)%len(rippled.mass)] += 200 + 35*k
		}
		states = append(states, brewedPlain(rippled))
	}
	return states
}

// TestAdaptationOfKnownStates compares AdaptState with its oracle on states of all shapes, and counts what it does.
func TestAdaptationOfKnownStates(t *testing.T) {
	byText := shapesByText()
	sum := adaptCount{}
	compare := func(p plainState, list ...bounds) {
		for _, b := range list {
			count := wantPlainAdapt(t, p, b, byText)
			sum.refined += count.refined
			sum.balanced += count.balanced
			sum.coarsened += count.coarsened
			sum.refused += count.refused
		}
	}
	for n, p := range fluxPlains() {
		list := mixedBounds(p, n)
		compare(p, list[n%len(list)])
	}
	for n, p := range rippledPlains() {
		compare(p, append(mixedBounds(p, n), bounds{100, 10}, bounds{100, 100}, bounds{50, 500})...)
	}
	for n, p := range slices.Concat(lakePlains(), puddlePlains()) {
		if n%9 == 0 {
			compare(p, bounds{100, 10}, bounds{16, 17})
		}
	}
	if min(sum.refined, sum.coarsened, sum.refused) < 1000 || sum.balanced < 500 {
		t.Errorf("AdaptState has done only so much: %+v", sum)
	}
}

// TestAdaptationOfBaseStates has all combinations of extreme thresholds, and of those around each jump.
func TestAdaptationOfBaseStates(t *testing.T) {
	byText := shapesByText()
	var plains []plainState
	for _, s := range baseStates(t) {
		plains = append(plains, plainState{impl.FormatMesh(s.Mesh), s.Mass, s.Tracer, s.Bed})
	}
	for _, p := range append(plains, richPlains()...) {
		list := extremeBounds()
		for _, jump := range plainJumps(p) {
			list = append(list, boundsAround(jump)...)
		}
		for _, b := range list {
			wantPlainAdapt(t, p, b, byText)
		}
	}
}

// TestAdaptationOfOneLeaf has a channel without a neighbour, in which only a negative high counts.
func TestAdaptationOfOneLeaf(t *testing.T) {
	byText := shapesByText()
	for _, p := range []plainState{{"0", []int{0}, []int{0}, []int{0}}, {"0", []int{7}, []int{6999}, []int{5}}, {"0", []int{10000000}, []int{10000000000}, []int{1000000}}} {
		s := p.state(t, byText)
		for _, low := range extremeInts() {
			for _, high := range []int{0, 1, 500, math.MaxInt} {
				wantNoAdapt(t, s, bounds{high, low})
			}
			for _, high := range []int{-1, -2, -500, math.MinInt} {
				wantAdapt(t, p, bounds{high, low}, remapPlain(p, "11"), byText)
			}
		}
	}
}

// TestAdaptationOfUniformMeshes has still leaves of one level, which are all refined or all coarsened, but for those of
// MaxLevel and of Level 0.
func TestAdaptationOfUniformMeshes(t *testing.T) {
	byText := shapesByText()
	for roots := 1; roots <= 8; roots++ {
		for level := range 5 {
			p := evenPlain(roots, level, 51, 700)
			finer, coarser := evenPlain(roots, min(level+1, 4), 0, 0).text, evenPlain(roots, max(level-1, 0), 0, 0).text
			wantAdapt(t, p, bounds{-1, 0}, remapPlain(p, finer), byText)
			wantAdapt(t, p, bounds{math.MinInt, math.MinInt}, remapPlain(p, finer), byText)
			wantAdapt(t, p, bounds{0, 1}, remapPlain(p, coarser), byText)
			wantAdapt(t, p, bounds{math.MaxInt, math.MaxInt}, remapPlain(p, coarser), byText)
			wantNoAdapt(t, p.state(t, byText), bounds{0, 0}, bounds{0, -1}, bounds{math.MaxInt, math.MinInt})
		}
	}
}

// TestNobodyWishesAnything has thresholds that no jump exceeds, or falls short of.
func TestNobodyWishesAnything(t *testing.T) {
	byText := shapesByText()
	for _, p := range slices.Concat(balancedPlains(), rippledPlains(), richPlains()) {
		greatest := slices.Max(plainJumps(p))
		wantNoAdapt(t, p.state(t, byText), bounds{greatest, 0}, bounds{greatest + 1, -1}, bounds{math.MaxInt, 0}, bounds{math.MaxInt, math.MinInt})
	}
}

// cellOver returns the leaf of a mesh that contains a cell, or false if the mesh is finer there.
func cellOver(m impl.Mesh, x impl.Id) (impl.Id, bool) {
	i := slices.IndexFunc(m.Leaves, func(leaf impl.Id) bool { return impl.Contains(leaf, x) })
	if i < 0 {
		return impl.Id{}, false
	}
	return m.Leaves[i], true
}

// wantWishesGranted compares the wishes of the state before with the leaves after: each leaf with the wish 1 is refined,
// and only leaves with the wish -1 are coarsened, by one level and together with their sibling.
func wantWishesGranted(t *testing.T, before impl.State, after impl.State, wishes []int) {
	t.Helper()
	for i, leaf := range before.Mesh.Leaves {
		over, ok := cellOver(after.Mesh, leaf)
		if ok && wishes[i] == 1 {
			t.Fatalf("the leaf %v of %v has the wish 1, and is within %v in %v", leaf, before, over, after)
		}
		if !ok || over == leaf {
			continue
		}
		parent, _ := impl.ParentOf(leaf)
		for side := range 2 {
			child, _ := impl.ChildOf(parent, side)
			if at := impl.LeafOf(before.Mesh, child); over != parent || at < 0 || wishes[at] != -1 {
				t.Fatalf("the leaf %v of %v is coarsened to %v in %v; the wishes are %v", leaf, before, over, after, wishes)
			}
		}
	}
}

// TestAnAdaptedStateIsBalancedAndHasTheSameTotals states the promise itself, for one adaptation and for several in a row.
func TestAnAdaptedStateIsBalancedAndHasTheSameTotals(t *testing.T) {
	byText := shapesByText()
	changed := 0
	for n, p := range slices.Concat(fluxPlains(), rippledPlains(), richPlains()) {
		first := p.state(t, byText)
		s := first
		for k, b := range mixedBounds(p, n) {
			if n%3 != k%3 {
				continue
			}
			wishes := impl.Wishes(s, b.high, b.low)
			after := impl.AdaptState(s, b.high, b.low)
			wantTotals(t, after)
			if !impl.IsBalanced(after.Mesh) || textUneven(impl.FormatMesh(after.Mesh)) >= 0 {
				t.Fatalf("AdaptState of %v above %d and below %d is not balanced: %v", s, b.high, b.low, after)
			}
			for _, before := range []impl.State{s, first} {
				if impl.TotalMass(after) != impl.TotalMass(before) || impl.TotalTracer(after) != impl.TotalTracer(before) || !slices.Equal(after.Bed, before.Bed) {
					t.Fatalf("the totals or the beds of %v and %v differ", before, after)
				}
			}
			wantWishesGranted(t, s, after, wishes)
			if !sameAsMesh(after.Mesh, s.Mesh) {
				changed++
			}
			s = after
		}
	}
	if changed < 1000 {
		t.Errorf("only %d adaptations have changed a mesh", changed)
	}
}

// TestAdaptationRefinesNoMoreThanItMust compares the mesh after AdaptState with that of Balance, whose leaves stay, but
// for pairs that were leaves before.
func TestAdaptationRefinesNoMoreThanItMust(t *testing.T) {
	byText := shapesByText()
	for n, p := range slices.Concat(balancedPlains(), rippledPlains()) {
		s := p.state(t, byText)
		b := mixedBounds(p, n)[n%5]
		m := s.Mesh
		for i, wish := range fromTheEnd(impl.Wishes(s, b.high, b.low)) {
			if wish == 1 {
				m, _ = impl.RefineLeaf(m, len(s.Mass)-1-i)
			}
		}
		m = impl.Balance(m)
		after := impl.AdaptState(s, b.high, b.low)
		for _, leaf := range after.Mesh.Leaves {
			left, _ := impl.ChildOf(leaf, 0)
			right, _ := impl.ChildOf(leaf, 1)
			joined := impl.LeafOf(m, left) >= 0 && impl.LeafOf(m, right) >= 0 && impl.LeafOf(s.Mesh, left) >= 0 && impl.LeafOf(s.Mesh, right) >= 0
			if impl.LeafOf(m, leaf) < 0 && !joined {
				t.Fatalf("AdaptState of %v above %d and below %d has the leaf %v, but the balanced mesh is %q", s, b.high, b.low, leaf, impl.FormatMesh(m))
			}
		}
		if without := impl.AdaptState(s, b.high, math.MinInt); !sameAsMesh(without.Mesh, m) {
			t.Fatalf("AdaptState of %v above %d has the mesh %q; want %q", s, b.high, impl.FormatMesh(without.Mesh), impl.FormatMesh(m))
		}
	}
}

// TestAdaptationByOtherChanges refines the leaves with the wish 1 by BalanceRefine, from the right, and coarsens pairs by
// CoarsenState.
func TestAdaptationByOtherChanges(t *testing.T) {
	byText := shapesByText()
	for n, p := range slices.Concat(balancedPlains(), rippledPlains(), richPlains()) {
		s := p.state(t, byText)
		b := mixedBounds(p, n)[n%7]
		wishes := impl.Wishes(s, b.high, b.low)
		want := s
		for i := len(wishes) - 1; i >= 0; i-- {
			if at := impl.LeafOf(want.Mesh, s.Mesh.Leaves[i]); at >= 0 && wishes[i] == 1 {
				want, _ = impl.BalanceRefine(want, at)
			}
		}
		for i := 0; i < len(wishes)-1; i++ {
			at := impl.LeafOf(want.Mesh, s.Mesh.Leaves[i])
			if at >= 0 && at == impl.LeafOf(want.Mesh, s.Mesh.Leaves[i+1])-1 && wishes[i] == -1 && wishes[i+1] == -1 {
				want, _ = impl.CoarsenState(want, at)
			}
		}
		if got := impl.AdaptState(s, b.high, b.low); !sameAsState(got, want) {
			t.Fatalf("AdaptState of %v above %d and below %d is %v; want %v", s, b.high, b.low, got, want)
		}
	}
}

// TestAdaptationInLongRuns adapts a channel again and again, while the water moves, enters, leaves and falls.
func TestAdaptationInLongRuns(t *testing.T) {
	byText := shapesByText()
	borders, amounts, rates := someBorders(), sourceAmounts(), decayRates()
	plains := append(richPlains(), filledPlain("0", 6), filledPlain("0|0|0|0|0|0|0|0", 4), filledPlain("12344|3321|0|11|2233443", 3))
	meshes := map[string]bool{}
	for n, p := range plains {
		s := p.state(t, byText)
		for step := range 60 {
			jumps := plainJumps(plainState{impl.FormatMesh(s.Mesh), s.Mass, s.Tracer, s.Bed})
			slices.Sort(jumps)
			b := bounds{jumps[len(jumps)*(2+step%2)/4], jumps[len(jumps)/(2+step%3)]}
			before := s
			s = impl.AdaptState(s, b.high, b.low)
			wantExplained(t, before, s, impl.Ledger{})
			wantWishesGranted(t, before, s, impl.Wishes(before, b.high, b.low))
			meshes[impl.FormatMesh(s.Mesh)] = true
			s, _ = impl.ApplyBorder(s, borders[(5*step+n)%len(borders)])
			s, _ = impl.RainOn(s, amounts[(5*step+n)%len(amounts)])
			s, _ = impl.Soak(s, amounts[(7*step+2*n)%len(amounts)])
			s, _ = impl.DecayAll(s, rates[(3*step+n)%len(rates)])
			s = impl.MacroStep(s)
		}
	}
	if len(meshes) < 100 {
		t.Errorf("there are only %d meshes", len(meshes))
	}
}

func TestRemapState(t *testing.T) {
	byText := shapesByText()
	numbers := func(n ...int) []int { return n }
	beds := numbers(7, 0, 1000000, 3, 40, 5, 600, 1)
	for _, c := range []movedCase{
		{"the same mesh", "122", numbers(400, 0, 7), numbers(1000, 0, 21), "122", numbers(400, 0, 7), numbers(1000, 0, 21)},
		{"the same mesh of one leaf", "0", numbers(400), numbers(1000), "0", numbers(400), numbers(1000)},
		{"the same finest mesh", "4444444444444444", slices.Repeat(numbers(3), 16), slices.Repeat(numbers(2999), 16), "4444444444444444", slices.Repeat(numbers(3), 16), slices.Repeat(numbers(2999), 16)},
		{"the given example, coarser", "122", numbers(400, 0, 7), numbers(1000, 0, 21), "0", numbers(407), numbers(1021)},
		{"the given example, finer", "0", numbers(407), numbers(1021), "2222", numbers(102, 102, 102, 101), numbers(255, 256, 256, 254)},
		{"one leaf refined", "122", numbers(400, 1, 7), numbers(1000, 0, 21), "2222", numbers(200, 200, 1, 7), numbers(500, 500, 0, 21)},
		{"the last leaf refined", "122", numbers(400, 1, 7), numbers(1000, 0, 21), "1233", numbers(400, 1, 4, 3), numbers(1000, 0, 12, 9)},
		{"one pair coarsened", "122", numbers(400, 1, 7), numbers(1000, 3, 21), "11", numbers(400, 8), numbers(1000, 24)},
		{"finer everywhere", "11", numbers(5, 7), numbers(33, 10), "2222", numbers(3, 2, 4, 3), numbers(19, 14, 5, 5)},
		{"coarser everywhere", "2222", numbers(3, 2, 4, 3), numbers(19, 14, 5, 5), "11", numbers(5, 7), numbers(33, 10)},
		{"finer on the left and coarser on the right", "122", numbers(400, 0, 7), numbers(1000, 0, 21), "221", numbers(200, 200, 7), numbers(500, 500, 21)},
		{"coarser on the left and finer on the right", "221", numbers(7, 0, 401), numbers(21, 0, 1001), "122", numbers(7, 201, 200), numbers(21, 501, 500)},
		{"finer in the middle and coarser at the ends", "332233", numbers(1, 3, 7, 5, 2, 2), numbers(1, 0, 10, 33, 1, 1), "233332", numbers(4, 4, 3, 3, 2, 4), numbers(1, 5, 5, 19, 14, 2)},
		{"roots in both directions", "0|11|0", numbers(7, 3, 4, 9), numbers(10, 1, 2, 9000), "11|0|11", numbers(4, 3, 7, 5, 4), numbers(5, 5, 3, 5000, 4000)},
		{"the finest mesh from the coarsest one", "0", numbers(7), numbers(10), "4444444444444444", numbers(1, 0, 1, 0, 1, 0, 1, 0, 1, 0, 1, 0, 1, 0, 0, 0), numbers(1, 0, 1, 0, 1, 0, 2, 0, 1, 0, 2, 0, 2, 0, 0, 0)},
		{"the coarsest mesh from the finest one", "4444444444444444", numbers(1, 0, 1, 0, 1, 0, 1, 0, 1, 0, 1, 0, 1, 0, 0, 0), numbers(1, 0, 1, 0, 1, 0, 2, 0, 1, 0, 2, 0, 2, 0, 0, 0), "0", numbers(7), numbers(10)},
		{"leaves of all levels, the finest at the right end", "12344", numbers(1, 2, 3, 4, 5), numbers(5, 4, 3, 2, 1), "0", numbers(15), numbers(15)},
		{"leaves of all levels, the finest at the left end", "44321", numbers(1, 2, 3, 4, 5), numbers(5, 4, 3, 2, 1), "0", numbers(15), numbers(15)},
		{"leaves of all levels, the finest in the middle", "233444433", slices.Repeat(numbers(1), 9), numbers(1, 2, 3, 4, 5, 6, 7, 8, 9), "0", numbers(9), numbers(45)},
		{"several finest leaves with others between them", "344344332", slices.Repeat(numbers(1), 9), numbers(1, 2, 3, 4, 5, 6, 7, 8, 9), "11", numbers(6, 3), numbers(21, 24)},
		{"several levels in both directions", "44321|0", numbers(4, 3, 4, 5, 6, 9), numbers(2, 1, 4, 5, 3, 8), "0|12344", numbers(22, 5, 2, 1, 1, 0), numbers(15, 4, 2, 1, 1, 0)},
		{"empty leaves", "11", numbers(0, 0), numbers(0, 0), "1233", numbers(0, 0, 0, 0), numbers(0, 0, 0, 0)},
		{"the greatest total and tracer", "11", numbers(1, 9999999), numbers(1000, 9999999000), "0", numbers(10000000), numbers(10000000000)},
		{"the greatest total and tracer, refined", "0", numbers(10000000), numbers(10000000000), "2222", slices.Repeat(numbers(2500000), 4), slices.Repeat(numbers(2500000000), 4)},
	} {
		t.Run(c.name, func(t *testing.T) {
			p, want := c.plains(beds)
			if oracle := remapPlain(p, c.wantText); !slices.Equal(oracle.mass, c.wantMass) || !slices.Equal(oracle.tracer, c.wantTracer) {
				t.Errorf("the oracle says %v; want %v", oracle, want)
			}
			s := p.state(t, byText)
			wantTotals(t, s)
			wantRemap(t, s, meshWithText(t, c.wantText, byText), want.state(t, byText))
		})
	}
}

// balancedTexts returns all balanced ways to divide a root.
func balancedTexts() []string {
	var texts []string
	for _, shape := range rootShapes() {
		if textUneven(shape.text) < 0 {
			texts = append(texts, shape.text)
		}
	}
	return texts
}

// TestRemapOfOneRoot goes from each balanced way to divide a root to many others, and to the coarsest and the finest one.
func TestRemapOfOneRoot(t *testing.T) {
	byText := shapesByText()
	texts := balancedTexts()
	finer, coarser, both := 0, 0, 0
	for n, text := range texts {
		p := filledPlain(text, n)
		for k, other := range texts {
			if (n+3*k)%17 != 0 && k != n && other != "0" && other != strings.Repeat("4", 16) {
				continue
			}
			wantPlainRemap(t, p, other, byText)
			switch up, down := finerText(other, text), finerText(text, other); {
			case up && !down:
				finer++
			case down && !up:
				coarser++
			case !up && !down:
				both++
			}
		}
	}
	if min(finer, coarser, both) < 1000 {
		t.Errorf("only %d meshes were finer everywhere, %d coarser, and %d neither", finer, coarser, both)
	}
}

// textsOfRoots returns channels of a number of roots, of all kinds.
func textsOfRoots(roots int) []string {
	texts := []string{evenPlain(roots, 0, 0, 0).text, evenPlain(roots, 2, 0, 0).text, evenPlain(roots, 4, 0, 0).text}
	for n, k := range knownMeshes() {
		if k.mesh.Roots == roots && n%29 == 0 {
			texts = append(texts, balancedText(k.text))
		}
	}
	return texts
}

func TestRemapOfSeveralRoots(t *testing.T) {
	byText := shapesByText()
	for roots := 2; roots <= 8; roots++ {
		texts := textsOfRoots(roots)
		for n, text := range texts {
			p := filledPlain(text, n)
			for _, other := range texts {
				wantPlainRemap(t, p, other, byText)
			}
		}
	}
}

// TestRemapToTheSameMesh leaves each state as it is.
func TestRemapToTheSameMesh(t *testing.T) {
	byText := shapesByText()
	states := baseStates(t)
	for _, p := range slices.Concat(balancedPlains(), richPlains()) {
		states = append(states, p.state(t, byText))
	}
	for _, s := range states {
		wantRemap(t, s, s.Mesh, s)
		wantRemap(t, s, copyOfState(s).Mesh, s)
	}
}

// TestRemapAndBackAgain goes to a mesh that is finer everywhere and back, with the totals before and after each.
func TestRemapAndBackAgain(t *testing.T) {
	byText := shapesByText()
	count := 0
	for roots := 1; roots <= 8; roots++ {
		texts := textsOfRoots(roots)
		if roots == 1 {
			texts = balancedTexts()
		}
		for n, text := range texts {
			s := filledPlain(text, n).state(t, byText)
			for k, other := range texts {
				if !finerText(other, text) || roots == 1 && (n+k)%5 != 0 {
					continue
				}
				finer, ok := impl.RemapState(s, meshWithText(t, other, byText))
				if !ok {
					t.Fatalf("RemapState refuses to go from %q to %q", text, other)
				}
				wantNothingCreatedOrLost(t, s, finer)
				wantRemap(t, finer, s.Mesh, s)
				count++
			}
		}
	}
	if count < 1000 {
		t.Errorf("only %d states came back", count)
	}
}

// TestRemapNeitherCreatesNorLosesAnything compares the totals, and what lies within each cell that both meshes divide.
func TestRemapNeitherCreatesNorLosesAnything(t *testing.T) {
	byText := shapesByText()
	for roots := 1; roots <= 8; roots++ {
		texts := textsOfRoots(roots)
		coarsest := meshWithText(t, texts[0], byText)
		for n, text := range texts {
			s := filledPlain(text, n).state(t, byText)
			least, ok := impl.RemapState(s, coarsest)
			if !ok {
				t.Fatalf("RemapState refuses to go from %q to %q", text, texts[0])
			}
			wantNothingCreatedOrLost(t, least, s)
			for _, other := range texts {
				moved, ok := impl.RemapState(s, meshWithText(t, other, byText))
				if !ok || !impl.IsBalanced(moved.Mesh) {
					t.Fatalf("RemapState from %q to %q gives %v, %v", text, other, moved, ok)
				}
				wantNothingCreatedOrLost(t, least, moved)
			}
		}
	}
}

// TestRemapByOtherChanges goes from one mesh to another by RefineState and CoarsenState, as far as the balance allows it.
func TestRemapByOtherChanges(t *testing.T) {
	byText := shapesByText()
	for n, p := range balancedPlains() {
		s := p.state(t, byText)
		for i := range s.Mass {
			if finer, ok := impl.BalanceRefine(s, i); ok && (n+i)%3 == 0 {
				wantRemap(t, s, finer.Mesh, finer)
				wantRemap(t, finer, s.Mesh, s)
			}
			if coarser, ok := impl.CoarsenState(s, i); ok {
				wantRemap(t, s, coarser.Mesh, coarser)
			}
		}
		b := mixedBounds(p, n)[n%7]
		adapted := impl.AdaptState(s, b.high, b.low)
		wantRemap(t, s, adapted.Mesh, adapted)
	}
}

func TestIsFinerEverywhere(t *testing.T) {
	byText := shapesByText()
	for _, c := range []struct {
		a, b         string
		finer, other bool
	}{
		{"0", "0", true, true},
		{"11", "11", true, true},
		{"122|11", "122|11", true, true},
		{"4444444444444444", "4444444444444444", true, true},
		{"11", "0", true, false},
		{"122", "0", true, false},
		{"122", "11", true, false},
		{"221", "11", true, false},
		{"2222", "122", true, false},
		{"22332", "122", true, false},
		{"4444444444444444", "0", true, false},
		{"4444444444444444", "12344", true, false},
		{"122", "221", false, false},
		{"1233", "2222", false, false},
		{"3321", "2222", false, false},
		{"12344", "2222", false, false},
		{"0|11", "11|0", false, false},
		{"0|11", "0|0", true, false},
		{"11|0", "0|0", true, false},
		{"11|11", "0|11", true, false},
		{"0|0|11", "0|11|0", false, false},
		{"0|0|0|0|0|0|0|11", "0|0|0|0|0|0|0|0", true, false},
		{"0|0|0|0|0|0|0|11", "11|0|0|0|0|0|0|0", false, false},
		{"144442", "0", true, false},
		{"144442", "1332", true, false},
		{"144442", "2222", false, false},
		{"122|0", "11|0", true, false},
		{"122|0", "122|11", false, true},
		{"0|4444444444444444", "0|0", true, false},
		{"0|4444444444444444", "4444444444444444|0", false, false},
		{"0|0", "0", false, false},
		{"0|11", "0", false, false},
		{"11|0", "11", false, false},
		{"11|11", "0", false, false},
		{"4444444444444444|0", "0", false, false},
		{"0|0|0|0|0|0|0|0", "0|0|0|0|0|0|0", false, false},
	} {
		a, b := meshWithText(t, c.a, byText), meshWithText(t, c.b, byText)
		wantFiner(t, a, b, c.finer)
		wantFiner(t, b, a, c.other)
		if finerText(c.a, c.b) != c.finer || finerText(c.b, c.a) != c.other {
			t.Errorf("the oracle is wrong about %q and %q", c.a, c.b)
		}
	}
}

// TestIsFinerEverywhereOfKnownMeshes compares pairs of meshes of all shapes, balanced or not, with the oracle.
func TestIsFinerEverywhereOfKnownMeshes(t *testing.T) {
	byRoots := map[int][]knownMesh{}
	for _, shape := range rootShapes() {
		byRoots[1] = append(byRoots[1], meshOfShapes(shape))
	}
	for n, k := range knownMeshes() {
		if k.mesh.Roots > 1 && n%9 == 0 {
			balanced := impl.Balance(k.mesh)
			byRoots[k.mesh.Roots] = append(byRoots[k.mesh.Roots], k, knownMesh{mesh: balanced, text: balancedText(k.text)})
		}
	}
	finer, other := 0, 0
	for roots, meshes := range byRoots {
		for i, a := range meshes {
			for k, b := range meshes {
				if roots == 1 && (i+5*k)%7 != 0 && i != k {
					continue
				}
				want := finerText(a.text, b.text)
				wantFiner(t, a.mesh, b.mesh, want)
				if want != liesWithin(a.mesh, b.mesh) {
					t.Fatalf("the leaves of %q lie within those of %q: %v", a.text, b.text, !want)
				}
				if want {
					finer++
				} else {
					other++
				}
			}
		}
	}
	if min(finer, other) < 1000 {
		t.Errorf("only %d meshes were finer, and %d not", finer, other)
	}
}

// TestIsFinerEverywhereAfterChanges refines, balances and coarsens meshes.
func TestIsFinerEverywhereAfterChanges(t *testing.T) {
	for n, k := range knownMeshes() {
		wantFiner(t, k.mesh, k.mesh, true)
		balanced := impl.Balance(k.mesh)
		wantFiner(t, balanced, k.mesh, true)
		wantFiner(t, k.mesh, balanced, sameAsMesh(balanced, k.mesh))
		for i := range k.mesh.Leaves {
			if finer, ok := impl.RefineLeaf(k.mesh, i); ok && (n+i)%5 == 0 {
				wantFiner(t, finer, k.mesh, true)
				wantFiner(t, k.mesh, finer, false)
			}
			if coarser, ok := impl.CoarsenPair(k.mesh, i); ok {
				wantFiner(t, k.mesh, coarser, true)
				wantFiner(t, coarser, k.mesh, false)
			}
		}
	}
}

func TestIsFinerEverywhereOfOtherRoots(t *testing.T) {
	for roots := 1; roots <= 8; roots++ {
		for others := 1; others <= 8; others++ {
			for level := range 5 {
				a, _ := impl.MeshNew(roots, 4)
				b, _ := impl.MeshNew(others, level)
				wantFiner(t, a, b, roots == others)
				wantFiner(t, b, a, roots == others && level == 4)
			}
		}
	}
}

func TestIsFinerEverywhereOfInvalidMeshes(t *testing.T) {
	finest, _ := impl.MeshNew(1, 4)
	wantFiner(t, impl.Mesh{}, impl.Mesh{}, false)
	for _, m := range append(baseMeshes(t), finest) {
		coarsest, _ := impl.MeshNew(m.Roots, 0)
		deepest, _ := impl.MeshNew(m.Roots, 4)
		wantFiner(t, m, impl.Mesh{}, false)
		wantFiner(t, impl.Mesh{}, m, false)
		for spoilt := range spoiltMeshes(m) {
			for _, other := range []impl.Mesh{m, coarsest, deepest, spoilt} {
				wantFiner(t, spoilt, other, false)
				wantFiner(t, other, spoilt, false)
			}
		}
	}
	for _, n := range extremeCellNumbers() {
		for _, m := range []impl.Mesh{{Roots: n}, {Roots: n, Leaves: []impl.Id{}}, {Roots: n, Leaves: []impl.Id{{Root: n, Level: n, Index: n}}}} {
			if n != 1 || len(m.Leaves) > 0 {
				wantFiner(t, m, m, false)
			}
			wantFiner(t, m, finest, false)
			wantFiner(t, finest, m, false)
		}
	}
}

func TestAdaptationOfInvalidStates(t *testing.T) {
	list := someBounds()
	count := 0
	for s := range invalidStates(t) {
		count++
		wantNoAdapt(t, s, list[count%len(list)], list[2])
	}
	for _, s := range slices.Concat(almostValidStates(t), unevenStates(t)) {
		wantNoAdapt(t, s, append(extremeBounds(), list...)...)
	}
}

// TestAdaptationOfRichStatesThatAreNotValid has states of which one list is spoilt, or one number by one unit, and whose
// leaves would become finer or coarser.
func TestAdaptationOfRichStatesThatAreNotValid(t *testing.T) {
	for s := range spoiltRichStates(t) {
		wantNoAdapt(t, s, bounds{-1, 0}, bounds{math.MaxInt, math.MaxInt}, bounds{100, 50})
	}
}

// spoiltRichStates produces states that are not valid, made of those of richPlains.
func spoiltRichStates(t *testing.T) iter.Seq[impl.State] {
	t.Helper()
	byText := shapesByText()
	return func(yield func(impl.State) bool) {
		more := true
		for _, p := range richPlains() {
			s := p.state(t, byText)
			for spoilt := range spoiltStates(s) {
				more = more && yield(spoilt)
			}
			for i, mass := range s.Mass {
				for _, c := range []blend{{1000*mass + 1, mass}, {-1, mass}, {0, -1}, {1, 0}, {1, 10000001 - impl.TotalMass(s) + mass}} {
					almost := copyOfState(s)
					almost.Mass[i], almost.Tracer[i] = c.mass, c.tracer
					more = more && yield(almost)
				}
			}
			for root := range s.Bed {
				for _, bed := range []int{-1, 1000001} {
					almost := copyOfState(s)
					almost.Bed[root] = bed
					more = more && yield(almost)
				}
			}
		}
	}
}

// TestRemapOfInvalidStates has meshes that are valid and balanced, and that often have as many roots as the state.
func TestRemapOfInvalidStates(t *testing.T) {
	meshes := func(s impl.State) []impl.Mesh {
		list := []impl.Mesh{s.Mesh}
		for _, roots := range []int{s.Mesh.Roots, 1, 2} {
			if m, ok := impl.MeshNew(roots, roots%5); ok {
				list = append(list, m)
			}
		}
		return list
	}
	count := 0
	for s := range invalidStates(t) {
		count++
		list := meshes(s)
		wantNoRemap(t, s, s.Mesh)
		wantNoRemap(t, s, list[count%len(list)])
	}
	for s := range spoiltRichStates(t) {
		for _, m := range meshes(s) {
			wantNoRemap(t, s, m)
		}
	}
	for _, s := range slices.Concat(almostValidStates(t), unevenStates(t)) {
		for _, m := range append(meshes(s), impl.Balance(s.Mesh)) {
			wantNoRemap(t, s, m)
		}
	}
}

// TestRemapToInvalidMeshes has meshes that are not valid, not balanced, or of fewer or more roots.
func TestRemapToInvalidMeshes(t *testing.T) {
	byText := shapesByText()
	states := baseStates(t)
	for _, s := range states {
		wantNoRemap(t, s, impl.Mesh{})
		for roots := 1; roots <= 8; roots++ {
			for level := range 5 {
				if m, _ := impl.MeshNew(roots, level); roots != s.Mesh.Roots {
					wantNoRemap(t, s, m)
				}
			}
		}
		for _, n := range extremeCellNumbers() {
			wantNoRemap(t, s, impl.Mesh{Roots: n})
			wantNoRemap(t, s, impl.Mesh{Roots: n, Leaves: []impl.Id{}})
		}
		count := 0
		for spoilt := range spoiltMeshes(s.Mesh) {
			if count++; count%5 == 0 {
				wantNoRemap(t, s, spoilt)
			}
		}
	}
	coarse, fine := evenPlain(2, 0, 9, 5).state(t, byText), evenPlain(2, 4, 9, 5).state(t, byText)
	for spoilt := range spoiltMeshes(meshWithText(t, "122|11", byText)) {
		wantNoRemap(t, coarse, spoilt)
		wantNoRemap(t, fine, spoilt)
	}
	uneven := 0
	for _, k := range knownMeshes() {
		if textUneven(k.text) >= 0 {
			uneven++
			wantNoRemap(t, evenPlain(k.mesh.Roots, uneven%5, 9, 5).state(t, byText), k.mesh)
		}
	}
	if uneven < 1000 {
		t.Errorf("only %d meshes are not balanced", uneven)
	}
}

// TestMovedStatesAreNewMemory looks at the states after adaptations of all kinds and after remaps, also those that change
// nothing and those that are refused.
func TestMovedStatesAreNewMemory(t *testing.T) {
	byText := shapesByText()
	states := slices.Concat(baseStates(t), unevenStates(t), []impl.State{{}, {Mass: []int{1}, Tracer: []int{2}, Bed: []int{3}}})
	for _, p := range richPlains() {
		states = append(states, p.state(t, byText))
	}
	for _, s := range states {
		for _, b := range someBounds() {
			adapt := func(s impl.State) (impl.State, bool) { return impl.AdaptState(s, b.high, b.low), true }
			wantOwnMemory(t, "AdaptState", s, adapt)
			got, _ := adapt(withSpare(s))
			wantSeparateLists(t, got)
		}
		for level := -1; level <= 4; level++ {
			m, ok := impl.MeshNew(s.Mesh.Roots, level)
			if !ok {
				m = s.Mesh
			}
			remap := func(s impl.State) (impl.State, bool) { return impl.RemapState(s, m) }
			wantOwnMemory(t, "RemapState", s, remap)
			got, _ := remap(withSpare(s))
			wantSeparateLists(t, got)
		}
	}
}

// TestRemapSharesNoMemoryWithTheMesh overwrites the result, and then the mesh, with the spare capacity behind them.
func TestRemapSharesNoMemoryWithTheMesh(t *testing.T) {
	for _, s := range append(baseStates(t), unevenStates(t)...) {
		for level := -1; level <= 4; level++ {
			m, ok := impl.MeshNew(s.Mesh.Roots, level)
			if !ok {
				m = s.Mesh
			}
			spare := withSpare(impl.State{Mesh: m})
			before := copyOfState(withAll(spare))
			got, done := impl.RemapState(s, spare.Mesh)
			want := copyOfState(got)
			overwrite(got)
			if !sameAsState(withAll(spare), before) {
				t.Fatalf("RemapState to %v, %v, changes the mesh or shares memory with it: %v", m, done, withAll(spare))
			}
			again, _ := impl.RemapState(s, spare.Mesh)
			overwrite(spare)
			if !sameAsState(again, want) {
				t.Fatalf("RemapState to %v, %v, gives a state that changes with the mesh: %v; want %v", m, done, again, want)
			}
		}
	}
}

// TestRemapToTheMeshOfTheSameList has a state and a mesh that share their leaves.
func TestRemapToTheMeshOfTheSameList(t *testing.T) {
	for _, s := range baseStates(t) {
		given := copyOfState(s)
		got, ok := impl.RemapState(given, given.Mesh)
		overwrite(got)
		if !ok || !sameAsState(given, s) {
			t.Fatalf("RemapState of %v to its own mesh changes it to %v, %v", s, given, ok)
		}
	}
}

func TestIsFinerEverywhereChangesNothing(t *testing.T) {
	for _, m := range baseMeshes(t) {
		for _, other := range baseMeshes(t) {
			a, b := withSpare(impl.State{Mesh: m}), withSpare(impl.State{Mesh: other})
			first, second := copyOfState(withAll(a)), copyOfState(withAll(b))
			wantFiner(t, a.Mesh, b.Mesh, impl.IsFinerEverywhere(m, other))
			wantFiner(t, a.Mesh, a.Mesh, true)
			if !sameAsState(withAll(a), first) || !sameAsState(withAll(b), second) {
				t.Errorf("the meshes %v and %v have been changed: %v, %v", m, other, withAll(a).Mesh, withAll(b).Mesh)
			}
		}
	}
}

// TestMovedListsOfOneArray has a state whose lists lie in one array, one behind the other.
func TestMovedListsOfOneArray(t *testing.T) {
	m, _ := impl.ParseMesh("11")
	whole, _ := impl.ParseMesh("0")
	numbers := []int{5, 6, 70, 80, 9}
	s := impl.State{Mesh: m, Mass: numbers[0:2], Tracer: numbers[2:4], Bed: numbers[4:5]}
	finer, coarser := impl.AdaptState(s, 1, 0), impl.AdaptState(s, 9, 9)
	moved, ok := impl.RemapState(s, whole)
	if !slices.Equal(finer.Mass, []int{3, 2, 3, 3}) || !slices.Equal(finer.Tracer, []int{42, 28, 40, 40}) || !slices.Equal(finer.Bed, []int{9}) {
		t.Errorf("AdaptState gives %v", finer)
	}
	for _, got := range []impl.State{coarser, moved} {
		if !ok || !slices.Equal(got.Mass, []int{11}) || !slices.Equal(got.Tracer, []int{150}) || !slices.Equal(got.Bed, []int{9}) {
			t.Errorf("AdaptState and RemapState give %v and %v, %v", coarser, moved, ok)
		}
	}
	if !slices.Equal(numbers, []int{5, 6, 70, 80, 9}) {
		t.Errorf("the array is %v", numbers)
	}
}
