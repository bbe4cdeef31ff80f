package tests

import (
	"math"
	"slices"
	"strings"
	"testing"

	"loop.example/g00982/impl"
)

// plainParts is the oracle of what belongs to each leaf of a rain or a loss: the amount is halved once for each level.
func plainParts(text string, amount int) []int {
	var parts []int
	for _, place := range leafDigits(text) {
		part := amount
		for range int(text[place] - '0') {
			part = (part - part%2) / 2
		}
		parts = append(parts, part)
	}
	return parts
}

// roomIn returns the mass that a state can hold beside its own.
func roomIn(p plainState) int {
	room := 10000000
	for _, mass := range p.mass {
		room -= mass
	}
	return room
}

// rainPlain is the oracle of RainOn.
func rainPlain(p plainState, rain int) (plainState, impl.Ledger) {
	after := plainState{p.text, slices.Clone(p.mass), slices.Clone(p.tracer), p.bed}
	l := impl.Ledger{}
	for i, part := range plainParts(p.text, rain) {
		after.mass[i] += part
		l.MassIn += part
	}
	if l.MassIn > roomIn(p) {
		return p, impl.Ledger{}
	}
	return after, l
}

// soakPlain is the oracle of Soak and DryOut.
func soakPlain(p plainState, loss int) (plainState, impl.Ledger, int) {
	after := plainState{p.text, slices.Clone(p.mass), slices.Clone(p.tracer), p.bed}
	l, dry := impl.Ledger{}, 0
	for i, part := range plainParts(p.text, loss) {
		switch {
		case p.mass[i] == 0:
			continue
		case p.mass[i] <= part:
			part = p.mass[i]
			dry++
		}
		tracer := exactShare(p.tracer[i], part, p.mass[i])
		after.mass[i] -= part
		after.tracer[i] -= tracer
		l.MassOut += part
		l.TracerOut += tracer
	}
	return after, l, dry
}

// sourceAmounts returns rains and losses at which a part of a level is rounded, and the least and the greatest ones.
func sourceAmounts() []int {
	return []int{0, 1, 2, 3, 7, 8, 15, 16, 17, 31, 32, 1000, 4999, 9983, 9984, 9999, 10000}
}

// amountsOutOfRange returns rains and losses that are refused.
func amountsOutOfRange() []int {
	return slices.DeleteFunc(append(extremeInts(), -10000, -16, 10001, 10002, 10016, 20000, 1<<59, 1<<60, 1<<60+16, -1<<60), func(n int) bool { return n >= 0 && n <= 10000 })
}

// wantRain checks the state and the ledger after a rain on a valid state.
func wantRain(t *testing.T, s impl.State, rain int, want impl.State, ledger impl.Ledger) {
	t.Helper()
	got, l := impl.RainOn(s, rain)
	if !sameAsState(got, want) || l != ledger {
		t.Fatalf("RainOn(%v, %d) = %v, %+v; want %v, %+v", s, rain, got, l, want, ledger)
	}
	wantExplained(t, s, got, l)
}

// wantSoak checks the state and the ledger after a loss of a valid state, and how many of its leaves dry out.
func wantSoak(t *testing.T, s impl.State, loss int, want impl.State, ledger impl.Ledger, dry int) {
	t.Helper()
	got, l := impl.Soak(s, loss)
	if !sameAsState(got, want) || l != ledger {
		t.Fatalf("Soak(%v, %d) = %v, %+v; want %v, %+v", s, loss, got, l, want, ledger)
	}
	wantExplained(t, s, got, l)
	seen := 0
	for i, mass := range got.Mass {
		if mass == 0 && s.Mass[i] > 0 {
			seen++
		}
	}
	if n := impl.DryOut(s, loss); n != dry || n != seen {
		t.Fatalf("DryOut(%v, %d) = %d; want %d, and Soak dries %d leaves out", s, loss, n, dry, seen)
	}
}

// wantPlainRain compares a rain with its oracle, and tells whether something was added.
func wantPlainRain(t *testing.T, p plainState, rain int, byText map[string]rootShape) bool {
	t.Helper()
	after, l := rainPlain(p, rain)
	wantRain(t, p.state(t, byText), rain, after.state(t, byText), l)
	return l.MassIn > 0
}

// wantPlainSoak compares a loss with its oracle, and returns the number of leaves that dry out.
func wantPlainSoak(t *testing.T, p plainState, loss int, byText map[string]rootShape) int {
	t.Helper()
	after, l, dry := soakPlain(p, loss)
	wantSoak(t, p.state(t, byText), loss, after.state(t, byText), l, dry)
	return dry
}

// wantNoSources checks that a rain and a loss are refused.
func wantNoSources(t *testing.T, s impl.State, amount int) {
	t.Helper()
	if got, l := impl.RainOn(s, amount); !sameAsState(got, s) || l != (impl.Ledger{}) {
		t.Fatalf("RainOn(%v, %d) = %v, %+v; want the state unchanged", s, amount, got, l)
	}
	if got, l := impl.Soak(s, amount); !sameAsState(got, s) || l != (impl.Ledger{}) {
		t.Fatalf("Soak(%v, %d) = %v, %+v; want the state unchanged", s, amount, got, l)
	}
	if n := impl.DryOut(s, amount); n != 0 {
		t.Fatalf("DryOut(%v, %d) = %d; want 0", s, amount, n)
	}
}

// evenPlain returns a state of roots that are divided into all cells of a level, each of which holds the same.
func evenPlain(roots int, level int, mass int, tracer int) plainState {
	root := strings.Repeat(string(rune('0'+level)), 1<<level)
	count := roots << level
	return plainState{strings.Join(slices.Repeat([]string{root}, roots), "|"), slices.Repeat([]int{mass}, count), slices.Repeat([]int{tracer}, count), make([]int, roots)}
}

// TestPartsOfEachLevel has leaves of one level, in one root and in several ones, which all get or lose the same.
func TestPartsOfEachLevel(t *testing.T) {
	byText := shapesByText()
	for _, c := range []struct {
		amount int
		parts  [5]int
	}{
		{0, [5]int{0, 0, 0, 0, 0}},
		{1, [5]int{1, 0, 0, 0, 0}},
		{2, [5]int{2, 1, 0, 0, 0}},
		{3, [5]int{3, 1, 0, 0, 0}},
		{7, [5]int{7, 3, 1, 0, 0}},
		{8, [5]int{8, 4, 2, 1, 0}},
		{15, [5]int{15, 7, 3, 1, 0}},
		{16, [5]int{16, 8, 4, 2, 1}},
		{17, [5]int{17, 8, 4, 2, 1}},
		{31, [5]int{31, 15, 7, 3, 1}},
		{32, [5]int{32, 16, 8, 4, 2}},
		{9983, [5]int{9983, 4991, 2495, 1247, 623}},
		{9984, [5]int{9984, 4992, 2496, 1248, 624}},
		{9999, [5]int{9999, 4999, 2499, 1249, 624}},
		{10000, [5]int{10000, 5000, 2500, 1250, 625}},
	} {
		for level, part := range c.parts {
			for _, roots := range []int{1, 2, 5, 8} {
				even := func(mass int, tracer int) impl.State { return evenPlain(roots, level, mass, tracer).state(t, byText) }
				count := roots << level
				wantRain(t, even(0, 0), c.amount, even(part, 0), impl.Ledger{MassIn: count * part})
				wantRain(t, even(20000, 60000), c.amount, even(20000+part, 60000), impl.Ledger{MassIn: count * part})
				wantSoak(t, even(20000, 60000), c.amount, even(20000-part, 60000-3*part), impl.Ledger{MassOut: count * part, TracerOut: 3 * count * part}, 0)
				wantSoak(t, even(0, 0), c.amount, even(0, 0), impl.Ledger{}, 0)
				wantSoak(t, even(part+1, 0), c.amount, even(1, 0), impl.Ledger{MassOut: count * part}, 0)
				if part > 0 {
					wantSoak(t, even(part, 7), c.amount, even(0, 0), impl.Ledger{MassOut: count * part, TracerOut: 7 * count}, count)
				}
				if part > 1 {
					wantSoak(t, even(part-1, 7), c.amount, even(0, 0), impl.Ledger{MassOut: count * (part - 1), TracerOut: 7 * count}, count)
				}
			}
		}
	}
}

type rainCase struct {
	name         string
	text         string
	mass, tracer []int
	rain         int
	wantMass     []int
	massIn       int
}

func wantRainCases(t *testing.T, cases []rainCase) {
	t.Helper()
	byText := shapesByText()
	beds := []int{7, 0, 1000000, 3, 40, 5, 600, 1}
	for _, c := range cases {
		t.Run(c.name, func(t *testing.T) {
			m := meshWithText(t, c.text, byText)
			s := impl.State{Mesh: m, Mass: c.mass, Tracer: c.tracer, Bed: beds[:m.Roots]}
			want := impl.State{Mesh: m, Mass: c.wantMass, Tracer: c.tracer, Bed: beds[:m.Roots]}
			wantRain(t, s, c.rain, want, impl.Ledger{MassIn: c.massIn})
		})
	}
}

func TestRainOn(t *testing.T) {
	numbers := func(n ...int) []int { return n }
	wantRainCases(t, []rainCase{
		{"the given example", "122", numbers(400, 0, 7), numbers(1000, 0, 21), 9, numbers(404, 2, 9), 8},
		{"one leaf", "0", numbers(400), numbers(1000), 9, numbers(409), 9},
		{"one leaf and no rain", "0", numbers(400), numbers(1000), 0, numbers(400), 0},
		{"one leaf and the greatest rain", "0", numbers(400), numbers(400000), 10000, numbers(10400), 10000},
		{"a leaf without mass becomes wet", "0", numbers(0), numbers(0), 1, numbers(1), 1},
		{"leaves without mass, some of which become wet", "0|12344", numbers(0, 0, 0, 0, 0, 0), numbers(0, 0, 0, 0, 0, 0), 7, numbers(7, 3, 1, 0, 0, 0), 11},
		{"leaves of all levels", "0|12344", numbers(1, 2, 3, 4, 5, 6), numbers(1000, 2000, 0, 4, 4999, 6), 15, numbers(16, 9, 6, 5, 5, 6), 26},
		{"leaves of all levels, 16", "0|12344", numbers(1, 2, 3, 4, 5, 6), numbers(1000, 2000, 0, 4, 4999, 6), 16, numbers(17, 10, 7, 6, 6, 7), 32},
		{"leaves of all levels, 17", "0|12344", numbers(1, 2, 3, 4, 5, 6), numbers(1000, 2000, 0, 4, 4999, 6), 17, numbers(18, 10, 7, 6, 6, 7), 33},
		{"leaves of all levels, from the other side", "44321|0", numbers(6, 5, 4, 3, 2, 1), numbers(6, 4999, 4, 0, 2000, 1000), 15, numbers(6, 5, 5, 6, 9, 16), 26},
		{"leaves of all levels, and the greatest rain", "0|12344", numbers(1, 0, 3, 0, 5, 0), numbers(1, 0, 3000, 0, 0, 0), 10000, numbers(10001, 5000, 2503, 1250, 630, 625), 20000},
		{"leaves of all levels, and nearly the greatest rain", "0|12344", numbers(1, 0, 3, 0, 5, 0), numbers(1, 0, 3000, 0, 0, 0), 9999, numbers(10000, 4999, 2502, 1249, 629, 624), 19994},
		{"a rain of 1, which only whole roots get", "11|0|11|0", numbers(0, 1, 2, 3, 0, 0), numbers(0, 1, 0, 0, 0, 0), 1, numbers(0, 1, 3, 3, 0, 1), 2},
		{"a rain that no leaf gets", "122|11", numbers(1, 0, 3, 0, 5), numbers(1, 0, 3, 0, 5), 1, numbers(1, 0, 3, 0, 5), 0},
		{"sixteen leaves of the deepest level", "4444444444444444", slices.Repeat(numbers(0, 8), 8), slices.Repeat(numbers(0, 9), 8), 31, slices.Repeat(numbers(1, 9), 8), 16},
		{"eight roots", "0|0|0|0|0|0|0|0", numbers(1, 2, 3, 4, 5, 6, 7, 8), numbers(8, 7, 6, 5, 4, 3, 2, 1), 10000, numbers(10001, 10002, 10003, 10004, 10005, 10006, 10007, 10008), 80000},
	})
}

// TestRainAtTheGreatestTotal has channels that the rain fills up, or would fill up too far: then no leaf gets anything.
func TestRainAtTheGreatestTotal(t *testing.T) {
	numbers := func(n ...int) []int { return n }
	wantRainCases(t, []rainCase{
		{"one leaf, reached exactly", "0", numbers(9999999), numbers(9999999000), 1, numbers(10000000), 1},
		{"one leaf, exceeded by 1", "0", numbers(9999999), numbers(9999999000), 2, numbers(9999999), 0},
		{"one leaf, already full", "0", numbers(10000000), numbers(10000000000), 1, numbers(10000000), 0},
		{"one leaf, already full, and no rain", "0", numbers(10000000), numbers(10000000000), 0, numbers(10000000), 0},
		{"one leaf and the greatest rain, reached exactly", "0", numbers(9990000), numbers(1), 10000, numbers(10000000), 10000},
		{"one leaf and the greatest rain, exceeded by 1", "0", numbers(9990001), numbers(1), 10000, numbers(9990001), 0},
		{"two roots, reached exactly", "0|0", numbers(5000000, 4999980), numbers(1, 2), 10, numbers(5000010, 4999990), 20},
		{"two roots, exceeded by 1", "0|0", numbers(5000000, 4999981), numbers(1, 2), 10, numbers(5000000, 4999981), 0},
		{"two roots, and room for one of them", "0|0", numbers(5000000, 4999990), numbers(1, 2), 10, numbers(5000000, 4999990), 0},
		{"a last leaf that is too much by 1", "0|0|0", numbers(0, 0, 9999998), numbers(0, 0, 5), 1, numbers(0, 0, 9999998), 0},
		{"all leaves but the last one empty, reached exactly", "0|0|0", numbers(0, 0, 9999997), numbers(0, 0, 5), 1, numbers(1, 1, 9999998), 3},
		{"a full first leaf", "0|0|0", numbers(10000000, 0, 0), numbers(5, 0, 0), 1, numbers(10000000, 0, 0), 0},
		{"a full middle leaf", "0|0|0", numbers(0, 10000000, 0), numbers(0, 5, 0), 10000, numbers(0, 10000000, 0), 0},
		{"leaves of several levels, reached exactly", "122|11", numbers(9999000, 0, 800, 100, 68), numbers(9, 0, 8, 7, 6), 16, numbers(9999008, 4, 804, 108, 76), 32},
		{"leaves of several levels, exceeded by 1", "122|11", numbers(9999000, 0, 800, 101, 68), numbers(9, 0, 8, 7, 6), 16, numbers(9999000, 0, 800, 101, 68), 0},
		{"leaves of several levels, exceeded by 1 in another leaf", "122|11", numbers(9999000, 1, 800, 100, 68), numbers(9, 0, 8, 7, 6), 16, numbers(9999000, 1, 800, 100, 68), 0},
		{"room for the parts that are rounded down, though not for the rain on two roots", "122|11", numbers(9999973, 0, 0, 0, 0), numbers(9, 0, 0, 0, 0), 15, numbers(9999980, 3, 3, 7, 7), 27},
		{"room for one unit less than the parts that are rounded down", "122|11", numbers(9999974, 0, 0, 0, 0), numbers(9, 0, 0, 0, 0), 15, numbers(9999974, 0, 0, 0, 0), 0},
		{"leaves of all levels, reached exactly", "0|12344", numbers(9999900, 1, 2, 3, 4, 64), numbers(9, 0, 0, 0, 0, 64000), 15, numbers(9999915, 8, 5, 4, 4, 64), 26},
		{"leaves of all levels, exceeded by 1", "0|12344", numbers(9999900, 1, 2, 3, 4, 65), numbers(9, 0, 0, 0, 0, 65000), 15, numbers(9999900, 1, 2, 3, 4, 65), 0},
		{"a full channel that gets nothing since all is rounded down", "4444444444444444", slices.Repeat(numbers(625000), 16), slices.Repeat(numbers(625000000), 16), 15, slices.Repeat(numbers(625000), 16), 0},
		{"a full channel of the deepest level", "4444444444444444", slices.Repeat(numbers(625000), 16), slices.Repeat(numbers(625000000), 16), 16, slices.Repeat(numbers(625000), 16), 0},
		{"the deepest level, reached exactly", "4444444444444444", slices.Repeat(numbers(624999), 16), slices.Repeat(numbers(3), 16), 31, slices.Repeat(numbers(625000), 16), 16},
		{"the deepest level, exceeded by 1", "4444444444444444", slices.Concat(slices.Repeat(numbers(624999), 15), numbers(625000)), slices.Repeat(numbers(3), 16), 31, slices.Concat(slices.Repeat(numbers(624999), 15), numbers(625000)), 0},
	})
}

type soakCase struct {
	name                 string
	text                 string
	mass, tracer         []int
	loss                 int
	wantMass, wantTracer []int
	massOut, tracerOut   int
	dry                  int
}

func wantSoakCases(t *testing.T, cases []soakCase) {
	t.Helper()
	byText := shapesByText()
	beds := []int{7, 0, 1000000, 3, 40, 5, 600, 1}
	for _, c := range cases {
		t.Run(c.name, func(t *testing.T) {
			m := meshWithText(t, c.text, byText)
			s := impl.State{Mesh: m, Mass: c.mass, Tracer: c.tracer, Bed: beds[:m.Roots]}
			want := impl.State{Mesh: m, Mass: c.wantMass, Tracer: c.wantTracer, Bed: beds[:m.Roots]}
			wantSoak(t, s, c.loss, want, impl.Ledger{MassOut: c.massOut, TracerOut: c.tracerOut}, c.dry)
		})
	}
}

func TestSoak(t *testing.T) {
	numbers := func(n ...int) []int { return n }
	wantSoakCases(t, []soakCase{
		{"the given example", "122", numbers(400, 0, 7), numbers(1000, 0, 21), 30, numbers(385, 0, 0), numbers(963, 0, 0), 22, 58, 1},
		{"the given example, and less is lost than a leaf has", "122", numbers(400, 0, 7), numbers(1000, 0, 21), 27, numbers(387, 0, 1), numbers(968, 0, 3), 19, 50, 0},
		{"the given example, and as much is lost as a leaf has", "122", numbers(400, 0, 7), numbers(1000, 0, 21), 28, numbers(386, 0, 0), numbers(965, 0, 0), 21, 56, 1},
		{"one leaf", "0", numbers(400), numbers(1000), 9, numbers(391), numbers(978), 9, 22, 0},
		{"one leaf and no loss", "0", numbers(400), numbers(1000), 0, numbers(400), numbers(1000), 0, 0, 0},
		{"one leaf that is empty", "0", numbers(0), numbers(0), 9, numbers(0), numbers(0), 0, 0, 0},
		{"one leaf that is empty, and no loss", "0", numbers(0), numbers(0), 0, numbers(0), numbers(0), 0, 0, 0},
		{"one leaf and the greatest loss", "0", numbers(10400), numbers(10400), 10000, numbers(400), numbers(400), 10000, 10000, 0},
		{"the greatest total", "0", numbers(10000000), numbers(10000000000), 10000, numbers(9990000), numbers(9990000000), 10000, 10000000, 0},
		{"the greatest total, and a tracer one unit below the greatest", "0", numbers(10000000), numbers(9999999999), 10000, numbers(9990000), numbers(9990000000), 10000, 9999999, 0},
		{"leaves of all levels", "0|12344", numbers(100, 200, 300, 400, 500, 600), numbers(100, 400, 0, 400000, 5, 600), 15, numbers(85, 193, 297, 399, 500, 600), numbers(85, 386, 0, 399000, 5, 600), 26, 1029, 0},
		{"leaves of all levels, 16", "0|12344", numbers(100, 200, 300, 400, 500, 600), numbers(100, 400, 0, 400000, 5, 600), 16, numbers(84, 192, 296, 398, 499, 599), numbers(84, 384, 0, 398000, 5, 599), 32, 2033, 0},
		{"leaves of all levels, 17", "0|12344", numbers(100, 200, 300, 400, 500, 600), numbers(100, 400, 0, 400000, 5, 600), 17, numbers(83, 192, 296, 398, 499, 599), numbers(83, 384, 0, 398000, 5, 599), 33, 2034, 0},
		{"leaves of all levels, from the other side", "44321|0", numbers(600, 500, 400, 300, 200, 100), numbers(600, 5, 400000, 0, 400, 100), 15, numbers(600, 500, 399, 297, 193, 85), numbers(600, 5, 399000, 0, 386, 85), 26, 1029, 0},
		{"leaves of all levels, and the greatest loss", "0|12344", numbers(10001, 5001, 2501, 1251, 626, 626), numbers(10001, 5001, 2501, 1251, 626, 626), 10000, numbers(1, 1, 1, 1, 1, 1), numbers(1, 1, 1, 1, 1, 1), 20000, 20000, 0},
		{"leaves of all levels, and nearly the greatest loss", "0|12344", numbers(10001, 5001, 2501, 1251, 626, 626), numbers(10001, 5001, 2501, 1251, 626, 626), 9999, numbers(2, 2, 2, 2, 2, 2), numbers(2, 2, 2, 2, 2, 2), 19994, 19994, 0},
		{"a loss of 1, which only whole roots have", "11|0|11|0", numbers(4, 1, 2, 3, 0, 1), numbers(4, 1, 2, 3, 0, 1), 1, numbers(4, 1, 1, 3, 0, 0), numbers(4, 1, 1, 3, 0, 0), 2, 2, 1},
		{"a loss that no leaf has", "122|11", numbers(1, 0, 3, 0, 5), numbers(1, 0, 3, 0, 5), 1, numbers(1, 0, 3, 0, 5), numbers(1, 0, 3, 0, 5), 0, 0, 0},
		{"sixteen leaves of the deepest level", "4444444444444444", slices.Repeat(numbers(0, 8), 8), slices.Repeat(numbers(0, 9), 8), 31, slices.Repeat(numbers(0, 7), 8), slices.Repeat(numbers(0, 8), 8), 8, 8, 0},
	})
}

// TestLeavesThatDryOut has masses around what is lost, and leaves that are dry already.
func TestLeavesThatDryOut(t *testing.T) {
	numbers := func(n ...int) []int { return n }
	wantSoakCases(t, []soakCase{
		{"less than what is lost", "0", numbers(8), numbers(8000), 9, numbers(0), numbers(0), 8, 8000, 1},
		{"as much as what is lost", "0", numbers(9), numbers(8999), 9, numbers(0), numbers(0), 9, 8999, 1},
		{"one unit more than what is lost", "0", numbers(10), numbers(9999), 9, numbers(1), numbers(1000), 9, 8999, 0},
		{"one unit of mass, and a loss of 1", "0", numbers(1), numbers(1000), 1, numbers(0), numbers(0), 1, 1000, 1},
		{"one unit of mass, and no loss", "0", numbers(1), numbers(1000), 0, numbers(1), numbers(1000), 0, 0, 0},
		{"one unit of mass, and the greatest loss", "0", numbers(1), numbers(1), 10000, numbers(0), numbers(0), 1, 1, 1},
		{"the greatest mass that dries out", "0", numbers(10000), numbers(10000000), 10000, numbers(0), numbers(0), 10000, 10000000, 1},
		{"the least mass that never dries out", "0", numbers(10001), numbers(10001000), 10000, numbers(1), numbers(1000), 10000, 10000000, 0},
		{"masses around what is lost, in leaves of one level", "2222", numbers(2, 3, 4, 0), numbers(2000, 2999, 3999, 0), 15, numbers(0, 0, 1, 0), numbers(0, 0, 1000, 0), 8, 7998, 2},
		{"masses around what is lost, in leaves of all levels", "0|12344", numbers(32, 16, 9, 4, 2, 1), numbers(32, 17, 18, 19, 20, 21), 32, numbers(0, 0, 1, 0, 0, 0), numbers(0, 0, 2, 0, 0, 0), 63, 125, 5},
		{"one unit more in all leaves", "0|12344", numbers(33, 17, 9, 5, 3, 3), numbers(0, 17, 18, 5, 3000, 6), 32, numbers(1, 1, 1, 1, 1, 1), numbers(0, 1, 2, 1, 1000, 2), 64, 2040, 0},
		{"a leaf that dries out without tracer", "11", numbers(3, 300), numbers(0, 300000), 8, numbers(0, 296), numbers(0, 296000), 7, 4000, 1},
		{"all leaves but one dry out", "122|11", numbers(1, 2, 3, 4, 5), numbers(1000, 0, 3, 3999, 1), 10, numbers(0, 0, 1, 0, 0), numbers(0, 0, 1, 0, 0), 14, 5002, 4},
		{"all leaves dry out", "122|11", numbers(1, 2, 3, 4, 5), numbers(1000, 0, 3, 3999, 1), 12, numbers(0, 0, 0, 0, 0), numbers(0, 0, 0, 0, 0), 15, 5003, 5},
		{"all leaves are dry already", "122|11", numbers(0, 0, 0, 0, 0), numbers(0, 0, 0, 0, 0), 10000, numbers(0, 0, 0, 0, 0), numbers(0, 0, 0, 0, 0), 0, 0, 0},
		{"all leaves but one are dry already", "122|11", numbers(0, 0, 0, 0, 1), numbers(0, 0, 0, 0, 7), 10000, numbers(0, 0, 0, 0, 0), numbers(0, 0, 0, 0, 0), 1, 7, 1},
		{"leaves of one root dry out", "11|0|11", numbers(5, 4, 90, 400, 300), numbers(5, 4, 90, 400, 300), 10, numbers(0, 0, 80, 395, 295), numbers(0, 0, 80, 395, 295), 29, 29, 2},
		{"a first and a last leaf that dry out", "0|0|0", numbers(1, 100, 1), numbers(1, 100, 1), 1, numbers(0, 99, 0), numbers(0, 99, 0), 3, 3, 2},
		{"finer leaves do not dry out, since their loss is rounded down to 0", "0|12344", numbers(1, 1, 1, 1, 1, 1), numbers(1, 1, 1, 1, 1, 1), 7, numbers(0, 0, 0, 1, 1, 1), numbers(0, 0, 0, 1, 1, 1), 3, 3, 3},
		{"a full channel of leaves that dry out", "0|0|0|0|0|0|0|0", slices.Repeat(numbers(10000), 8), slices.Repeat(numbers(10000000), 8), 10000, slices.Repeat(numbers(0), 8), slices.Repeat(numbers(0), 8), 80000, 80000000, 8},
	})
}

// TestTheTracerThatIsLost has parts of a Tracer that do not divide evenly, in leaves of several levels.
func TestTheTracerThatIsLost(t *testing.T) {
	byText := shapesByText()
	for _, c := range []struct{ mass, tracer, lost, want int }{
		{1000, 0, 250, 0},
		{1000, 1, 250, 0},
		{1000, 1, 999, 0},
		{1000, 1, 1000, 1},
		{1000, 3, 250, 0},
		{1000, 4, 250, 1},
		{1000, 7, 250, 1},
		{1000, 8, 250, 2},
		{1000, 1001, 250, 250},
		{1000, 999999, 250, 249999},
		{1000, 1000000, 250, 250000},
		{1000, 1000000, 1, 1000},
		{1000, 999999, 1, 999},
		{1000, 999, 1, 0},
		{1000, 999, 999, 998},
		{7, 6, 1, 0},
		{7, 7, 1, 1},
		{7, 13, 1, 1},
		{7, 14, 1, 2},
		{7, 6999, 6, 5999},
		{7, 6999, 7, 6999},
		{7, 7000, 6, 6000},
		{3, 1, 2, 0},
		{3, 2, 2, 1},
		{3, 2, 0, 0},
		{400, 1000, 15, 37},
		{10000, 1, 9999, 0},
		{10000, 9999999, 9999, 9998999},
		{9000000, 9000000000, 625, 625000},
		{9000000, 8999999999, 625, 624999},
		{9000000, 1, 625, 0},
	} {
		for level := range 5 {
			loss := c.lost << level
			if loss > 10000 {
				continue
			}
			for _, roots := range []int{1, 2} {
				p := evenPlain(roots, level, 0, 0)
				at := (len(p.mass) - 1) / 2
				p.mass[at], p.tracer[at] = c.mass, c.tracer
				for _, more := range []int{0, 1<<level - 1} {
					s := p.state(t, byText)
					got, l := impl.Soak(s, min(loss+more, 10000))
					if l.MassOut != c.lost || l.TracerOut != c.want || got.Mass[at] != c.mass-c.lost || got.Tracer[at] != c.tracer-c.want {
						t.Errorf("of %d in %d, a loss of %d takes %d in %d and leaves %d in %d; want %d in %d", c.tracer, c.mass, loss+more, l.TracerOut, l.MassOut, got.Tracer[at], got.Mass[at], c.want, c.lost)
					}
					wantExplained(t, s, got, l)
				}
			}
		}
	}
}

// TestEachAmountOnLeavesOfAllLevels has each rain and each loss, and those around their ranges.
func TestEachAmountOnLeavesOfAllLevels(t *testing.T) {
	byText := shapesByText()
	p := plainState{"0|12344", []int{9000, 5000, 1234, 1249, 3, 700}, []int{9000000, 1, 777777, 0, 2999, 555}, []int{5, 1000000}}
	s := p.state(t, byText)
	for amount := -300; amount <= 10300; amount++ {
		if amount < 0 || amount > 10000 {
			wantNoSources(t, s, amount)
			continue
		}
		wantPlainRain(t, p, amount, byText)
		wantPlainSoak(t, p, amount, byText)
	}
}

// TestSourcesOfKnownStates compares all functions with their oracles, on states of all shapes.
func TestSourcesOfKnownStates(t *testing.T) {
	byText := shapesByText()
	amounts := sourceAmounts()
	dried, wet := 0, 0
	compare := func(p plainState, amount int) {
		wantPlainRain(t, p, amount, byText)
		dry := wantPlainSoak(t, p, amount, byText)
		dried += dry
		if dry == 0 && impl.TotalMass(p.state(t, byText)) > 0 {
			wet++
		}
	}
	for n, p := range fluxPlains() {
		for _, amount := range []int{amounts[n%len(amounts)], amounts[(n/len(amounts))%len(amounts)], n * 31 % 10001} {
			compare(p, amount)
		}
	}
	for _, s := range baseStates(t) {
		p := plainState{impl.FormatMesh(s.Mesh), s.Mass, s.Tracer, s.Bed}
		for _, amount := range amounts {
			compare(p, amount)
		}
	}
	if min(dried, wet) < 1000 {
		t.Errorf("%d leaves dried out, and in %d states none did", dried, wet)
	}
}

// TestRainOnNearlyFullChannels has room for exactly the rain, for one unit less and for one unit more.
func TestRainOnNearlyFullChannels(t *testing.T) {
	byText := shapesByText()
	for n, p := range balancedPlains() {
		for _, rain := range []int{1 + n%10000, 16, 9999, 10000} {
			parts := 0
			for _, part := range plainParts(p.text, rain) {
				parts += part
			}
			at := (n + rain) % len(p.mass)
			for _, rest := range []int{0, parts - 1, parts, parts + 1} {
				full := plainState{p.text, slices.Clone(p.mass), p.tracer, p.bed}
				full.mass[at] += roomIn(p) - max(0, rest)
				if added := wantPlainRain(t, full, rain, byText); added != (parts > 0 && rest >= parts) {
					t.Fatalf("with room for %d, a rain of %d units in parts of %d is added: %v", rest, rain, parts, added)
				}
				wantPlainSoak(t, full, rain, byText)
			}
		}
	}
}

// TestALossTakesTheRainBack has states without tracer, in which a loss of as much as it has rained brings the state back.
func TestALossTakesTheRainBack(t *testing.T) {
	byText := shapesByText()
	for n, p := range balancedPlains() {
		p = cleanPlain(p.text, p.mass, p.bed)
		s := p.state(t, byText)
		for _, amount := range []int{1, 15, 17, n * 37 % 10001} {
			wet, in := impl.RainOn(s, amount)
			back, out := impl.Soak(wet, amount)
			if !sameAsState(back, s) || in.MassIn != out.MassOut {
				t.Fatalf("%v becomes %v by a rain of %d, and then %v by a loss; the ledgers are %+v and %+v", s, wet, amount, back, in, out)
			}
		}
	}
}

// TestLossesOfSingleLeaves asks for each leaf by itself, with nothing in the others.
func TestLossesOfSingleLeaves(t *testing.T) {
	byText := shapesByText()
	amounts := sourceAmounts()
	for n, p := range balancedPlains() {
		if n%3 > 0 {
			continue
		}
		s := p.state(t, byText)
		for _, loss := range []int{amounts[n%len(amounts)], 1 + n%32, 10000} {
			after, all := impl.Soak(s, loss)
			dry, sum := 0, impl.Ledger{}
			for i := range p.mass {
				alone := cleanPlain(p.text, make([]int, len(p.mass)), p.bed)
				alone.mass[i], alone.tracer[i] = p.mass[i], p.tracer[i]
				one := alone.state(t, byText)
				rest, l := impl.Soak(one, loss)
				if rest.Mass[i] != after.Mass[i] || rest.Tracer[i] != after.Tracer[i] {
					t.Fatalf("Soak(%v, %d) is %v; the leaf %d alone is left with %d in %d", s, loss, after, i, rest.Tracer[i], rest.Mass[i])
				}
				count := impl.DryOut(one, loss)
				if dries := p.mass[i] > 0 && after.Mass[i] == 0; dries != (count == 1) || !dries && count != 0 {
					t.Fatalf("DryOut is %d for the leaf %d of %v alone, and Soak leaves %d", count, i, s, after.Mass[i])
				}
				dry += count
				sum = impl.LedgerAdd(sum, l)
			}
			if got := impl.DryOut(s, loss); got != dry || sum != all {
				t.Fatalf("DryOut(%v, %d) is %d, and %d for the leaves one by one; the ledgers are %+v and %+v", s, loss, got, dry, all, sum)
			}
		}
	}
}

// TestGreaterLossesDryMoreLeavesOut compares each loss with the one before it.
func TestGreaterLossesDryMoreLeavesOut(t *testing.T) {
	byText := shapesByText()
	for n := range 10 {
		s := filledPlain("0|12344|3321|0|11|2233443", n).state(t, byText)
		last := 0
		for loss := 0; loss <= 10000; loss += 1 + loss/8 {
			dry := impl.DryOut(s, loss)
			after, _ := impl.Soak(s, loss)
			if dry < last || dry != len(impl.DryLeaves(after))-len(impl.DryLeaves(s)) {
				t.Fatalf("DryOut(%v, %d) is %d, and was %d for a smaller loss", s, loss, dry, last)
			}
			last = dry
			if again := impl.DryOut(after, 0); again != 0 {
				t.Fatalf("%d leaves of %v dry out without a loss", again, after)
			}
		}
		if last == 0 {
			t.Errorf("no leaf of %v dries out", s)
		}
	}
}

// TestSourcesFromTheOtherSide compares what happens in a channel with what happens in the same one seen from the other side.
func TestSourcesFromTheOtherSide(t *testing.T) {
	byText := shapesByText()
	amounts := sourceAmounts()
	for n, p := range balancedPlains() {
		s, mirrored := p.state(t, byText), mirroredPlain(p).state(t, byText)
		amount := amounts[n%len(amounts)]
		rained, in := impl.RainOn(s, amount)
		other, otherIn := impl.RainOn(mirrored, amount)
		if in != otherIn || !slices.Equal(fromTheEnd(rained.Mass), other.Mass) || !slices.Equal(fromTheEnd(rained.Tracer), other.Tracer) {
			t.Fatalf("RainOn(%v, %d) is %v, %+v, and %v, %+v from the other side", s, amount, rained, in, other, otherIn)
		}
		soaked, out := impl.Soak(s, amount)
		other, otherOut := impl.Soak(mirrored, amount)
		if out != otherOut || !slices.Equal(fromTheEnd(soaked.Mass), other.Mass) || !slices.Equal(fromTheEnd(soaked.Tracer), other.Tracer) {
			t.Fatalf("Soak(%v, %d) is %v, %+v, and %v, %+v from the other side", s, amount, soaked, out, other, otherOut)
		}
		if dry, otherDry := impl.DryOut(s, amount), impl.DryOut(mirrored, amount); dry != otherDry {
			t.Fatalf("DryOut(%v, %d) is %d, and %d from the other side", s, amount, dry, otherDry)
		}
	}
}

// TestSharesAfterRainAndLosses checks that rain makes no share greater, and that a loss gives none that was not there before.
func TestSharesAfterRainAndLosses(t *testing.T) {
	byText := shapesByText()
	amounts := sourceAmounts()
	for n, p := range fluxPlains() {
		s := brewedPlain(p).state(t, byText)
		amount := amounts[n%len(amounts)]
		rained, _ := impl.RainOn(s, amount)
		if impl.GreatestShare(rained) > impl.GreatestShare(s) || !slices.Equal(rained.Tracer, s.Tracer) {
			t.Fatalf("after a rain of %d, %v has become %v", amount, s, rained)
		}
		soaked, l := impl.Soak(s, amount)
		greatest, least := impl.GreatestShare(s), impl.LeastShare(s)
		if impl.GreatestShare(soaked) > greatest || l.TracerOut > greatest*l.MassOut {
			t.Fatalf("the greatest share of %v is %d after a loss of %d, and %+v were lost; it was %d", soaked, impl.GreatestShare(soaked), amount, l, greatest)
		}
		if impl.TotalMass(soaked) > 0 && impl.LeastShare(soaked) < least {
			t.Fatalf("the least share of %v is %d after a loss of %d; it was %d", soaked, impl.LeastShare(soaked), amount, least)
		}
	}
}

// TestRainAndLossesAreBooked states the promise itself, over many rains and losses in a row, with borders, steps and
// changes of the mesh between them.
func TestRainAndLossesAreBooked(t *testing.T) {
	byText := shapesByText()
	borders, amounts := someBorders(), sourceAmounts()
	plains := append(richPlains(), filledPlain("0", 6), filledPlain("11", 4), filledPlain("12344|3321|0|11|2233443", 3), filledPlain("4444444444444444|33222|11", 5))
	dried, refused := 0, 0
	for n, p := range plains {
		first := p.state(t, byText)
		last, sum := first, impl.Ledger{}
		book := func(next impl.State, l impl.Ledger) {
			wantExplained(t, last, next, l)
			sum = impl.LedgerAdd(sum, l)
			wantExplained(t, first, next, sum)
			last = next
		}
		for step := range 150 {
			rain, loss := amounts[(5*step+n)%len(amounts)], amounts[(7*step+2*n)%len(amounts)]
			next, l := impl.RainOn(last, rain)
			if rain >= 16 && l.MassIn == 0 {
				refused++
			}
			book(next, l)
			dried += impl.DryOut(last, loss)
			book(impl.Soak(last, loss))
			if step%3 == 0 && step >= 60 {
				book(impl.ApplyBorder(last, borders[(5*step+n)%len(borders)]))
			}
			book(impl.MacroStep(last), impl.Ledger{})
			if finer, ok := impl.BalanceRefine(last, step%len(last.Mass)); ok && step%4 == 0 {
				book(finer, impl.Ledger{})
			} else if coarser, ok := impl.CoarsenState(last, step%len(last.Mass)); ok {
				book(coarser, impl.Ledger{})
			}
		}
		if sum.MassIn == 0 || sum.MassOut == 0 || sum.TracerIn == 0 || sum.TracerOut == 0 {
			t.Errorf("a field of the ledger %+v is 0 after many rains and losses of %v", sum, p)
		}
	}
	if dried < 100 || refused == 0 {
		t.Errorf("%d leaves dried out, and %d rains added nothing", dried, refused)
	}
}

// TestRainUntilAChannelIsFull lets it rain as long as there is room, and then takes everything by losses.
func TestRainUntilAChannelIsFull(t *testing.T) {
	byText := shapesByText()
	for _, text := range []string{"0", "0|12344|3321|0|11", "0|0|0|0|0|0|0|0"} {
		p := filledPlain(text, 8)
		first := p.state(t, byText)
		last, sum := first, impl.Ledger{}
		for range 1100 {
			next, l := impl.RainOn(last, 10000)
			sum = impl.LedgerAdd(sum, l)
			last = next
		}
		wantExplained(t, first, last, sum)
		if room := 10000000 - impl.TotalMass(last); room >= 10000*len(p.bed) || sum.MassIn%(10000*len(p.bed)) != 0 {
			t.Errorf("there is room for %d in %v after many rains, by which %d were added", room, last, sum.MassIn)
		}
		for impl.TotalMass(last) > 0 {
			next, l := impl.Soak(last, 10000)
			if l.MassOut == 0 {
				t.Fatalf("nothing is lost of %v", last)
			}
			sum = impl.LedgerAdd(sum, l)
			last = next
		}
		wantExplained(t, first, last, sum)
		if impl.TotalTracer(last) != 0 || sum.MassOut != impl.TotalMass(first)+sum.MassIn || sum.TracerOut != impl.TotalTracer(first) {
			t.Errorf("%v is left, and the ledger is %+v", last, sum)
		}
	}
}

func TestSourcesOutOfRange(t *testing.T) {
	byText := shapesByText()
	states := append(baseStates(t), impl.State{})
	for _, p := range richPlains() {
		states = append(states, p.state(t, byText))
	}
	for _, s := range states {
		for _, amount := range amountsOutOfRange() {
			wantNoSources(t, s, amount)
		}
	}
}

func TestSourcesOfInvalidStates(t *testing.T) {
	amounts := sourceAmounts()
	count := 0
	for s := range invalidStates(t) {
		count++
		wantNoSources(t, s, amounts[count%len(amounts)])
		wantNoSources(t, s, 10000)
	}
	for _, s := range almostValidStates(t) {
		for _, amount := range append(amounts, -1, 10001, math.MinInt, math.MaxInt) {
			wantNoSources(t, s, amount)
		}
	}
}

// TestSourcesOfRichStatesThatAreNotValid has states of which one list is spoilt, none of whose leaves are empty.
func TestSourcesOfRichStatesThatAreNotValid(t *testing.T) {
	byText := shapesByText()
	for _, p := range richPlains() {
		s := p.state(t, byText)
		for spoilt := range spoiltStates(s) {
			wantNoSources(t, spoilt, 17)
		}
		for i, mass := range s.Mass {
			for _, c := range []blend{{1000*mass + 1, mass}, {-1, mass}, {0, -1}, {1, 0}, {1, 10000001 - impl.TotalMass(s) + mass}} {
				almost := copyOfState(s)
				almost.Mass[i], almost.Tracer[i] = c.mass, c.tracer
				wantNoSources(t, almost, 17)
			}
		}
	}
}

// TestStatesThatASourceWouldMakeValid has states that are not valid before a rain or a loss, and would be after it.
func TestStatesThatASourceWouldMakeValid(t *testing.T) {
	byText := shapesByText()
	for _, p := range []plainState{
		{"0", []int{10000001}, []int{0}, []int{0}},
		{"0|0", []int{9999999, 2}, []int{0, 0}, []int{0, 0}},
		{"0", []int{-1}, []int{0}, []int{0}},
		{"0|0", []int{5, -1}, []int{0, 0}, []int{0, 0}},
		{"0", []int{0}, []int{1}, []int{0}},
		{"0", []int{2}, []int{2001}, []int{0}},
		{"0|0", []int{2, 1}, []int{0, 1001}, []int{0, 0}},
	} {
		for _, amount := range []int{0, 1, 2, 10000} {
			wantNoSources(t, p.state(t, byText), amount)
		}
	}
}

// TestSourcesReturnNewMemory looks at the states after rains and losses by which something, or nothing, changes, and
// after those that are refused.
func TestSourcesReturnNewMemory(t *testing.T) {
	byText := shapesByText()
	states := slices.Concat(baseStates(t), unevenStates(t), []impl.State{{}, {Mass: []int{1}, Tracer: []int{2}, Bed: []int{3}}})
	for _, p := range richPlains() {
		states = append(states, p.state(t, byText))
	}
	for _, source := range []struct {
		name string
		call func(s impl.State, amount int) (impl.State, impl.Ledger)
	}{{"RainOn", impl.RainOn}, {"Soak", impl.Soak}} {
		for _, s := range states {
			for _, amount := range append(sourceAmounts(), -1, 10001) {
				_, want := source.call(s, amount)
				wantOwnMemory(t, source.name, s, func(s impl.State) (impl.State, bool) {
					got, l := source.call(s, amount)
					return got, l == want
				})
				got, _ := source.call(withSpare(s), amount)
				wantSeparateLists(t, got)
			}
		}
	}
}

// TestDryOutChangesNothing calls DryOut with spare capacity behind the lists, which must not count.
func TestDryOutChangesNothing(t *testing.T) {
	for _, s := range append(baseStates(t), unevenStates(t)...) {
		given := withSpare(s)
		before := copyOfState(withAll(given))
		for _, loss := range append(sourceAmounts(), -1, 10001) {
			if got, want := impl.DryOut(given, loss), impl.DryOut(s, loss); got != want {
				t.Errorf("DryOut(%v, %d) is %d, and %d with spare capacity", s, loss, want, got)
			}
		}
		if !sameAsState(withAll(given), before) {
			t.Errorf("the state %v has been changed: %v", before, withAll(given))
		}
	}
}

// TestSourcesOfListsOfOneArray has a state whose lists lie in one array, one behind the other.
func TestSourcesOfListsOfOneArray(t *testing.T) {
	m, _ := impl.ParseMesh("11")
	numbers := []int{500, 10, 1000, 50, 7}
	s := impl.State{Mesh: m, Mass: numbers[0:2], Tracer: numbers[2:4], Bed: numbers[4:5]}
	rained := impl.State{Mesh: m, Mass: []int{510, 20}, Tracer: []int{1000, 50}, Bed: []int{7}}
	wantRain(t, s, 20, rained, impl.Ledger{MassIn: 20})
	soaked := impl.State{Mesh: m, Mass: []int{490, 0}, Tracer: []int{980, 0}, Bed: []int{7}}
	wantSoak(t, s, 20, soaked, impl.Ledger{MassOut: 20, TracerOut: 70}, 1)
	if !slices.Equal(numbers, []int{500, 10, 1000, 50, 7}) {
		t.Errorf("the array is %v", numbers)
	}
}
