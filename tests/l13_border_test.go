package tests

import (
	"iter"
	"math"
	"math/big"
	"slices"
	"testing"

	"loop.example/g00982/impl"
)

// borderPlain is the oracle of ApplyBorder. It takes whole thousands and the rest of a Mass one after the other.
func borderPlain(p plainState, b impl.Border) (plainState, impl.Ledger) {
	last := len(p.mass) - 1
	mass := p.mass[last]
	out := mass/1000*b.Out + mass%1000*b.Out/1000
	l := impl.Ledger{MassOut: out, TracerOut: exactShare(p.tracer[last], out, mass)}
	after := plainState{p.text, slices.Clone(p.mass), slices.Clone(p.tracer), p.bed}
	after.mass[last] -= l.MassOut
	after.tracer[last] -= l.TracerOut
	room := 10000000
	for _, mass := range after.mass {
		room -= mass
	}
	if room >= b.In {
		l.MassIn, l.TracerIn = b.In, b.In*b.InShare
		after.mass[0] += l.MassIn
		after.tracer[0] += l.TracerIn
	}
	return after, l
}

// isSumAround tells whether before+in-out is after, when sums that exceed the range of an int wrap around.
func isSumAround(before, in, out, after int) bool {
	rest := new(big.Int).Add(big.NewInt(int64(before)), big.NewInt(int64(in)))
	rest.Sub(rest, big.NewInt(int64(out)))
	rest.Sub(rest, big.NewInt(int64(after)))
	return rest.Mod(rest, new(big.Int).Lsh(big.NewInt(1), 64)).Sign() == 0
}

// wantHolds checks what LedgerHolds says of two valid states.
func wantHolds(t *testing.T, before impl.State, after impl.State, l impl.Ledger) bool {
	t.Helper()
	want := isSumAround(impl.TotalMass(before), l.MassIn, l.MassOut, impl.TotalMass(after)) &&
		isSumAround(impl.TotalTracer(before), l.TracerIn, l.TracerOut, impl.TotalTracer(after))
	if got := impl.LedgerHolds(before, after, l); got != want {
		t.Fatalf("LedgerHolds(%v, %v, %+v) = %v", before, after, l, got)
	}
	return want
}

// ledgersBeside returns ledgers that differ from a given one in one field, by one unit.
func ledgersBeside(l impl.Ledger) []impl.Ledger {
	var ledgers []impl.Ledger
	for _, unit := range []int{1, -1} {
		for _, change := range []impl.Ledger{{MassIn: unit}, {MassOut: unit}, {TracerIn: unit}, {TracerOut: unit}} {
			ledgers = append(ledgers, impl.Ledger{MassIn: l.MassIn + change.MassIn, MassOut: l.MassOut + change.MassOut, TracerIn: l.TracerIn + change.TracerIn, TracerOut: l.TracerOut + change.TracerOut})
		}
	}
	return ledgers
}

// wantExplained checks that a ledger explains how one state became another one, and that no ledger beside it does.
func wantExplained(t *testing.T, before impl.State, after impl.State, l impl.Ledger) {
	t.Helper()
	wantTotals(t, before)
	wantTotals(t, after)
	if impl.TotalMass(after)-impl.TotalMass(before) != l.MassIn-l.MassOut || impl.TotalTracer(after)-impl.TotalTracer(before) != l.TracerIn-l.TracerOut {
		t.Fatalf("the ledger %+v does not explain how %v became %v", l, before, after)
	}
	if !impl.LedgerHolds(before, after, l) {
		t.Fatalf("LedgerHolds(%v, %v, %+v) = false", before, after, l)
	}
	for _, other := range ledgersBeside(l) {
		if impl.LedgerHolds(before, after, other) {
			t.Fatalf("LedgerHolds(%v, %v, %+v) = true; the ledger is %+v", before, after, other, l)
		}
	}
}

// wantBorder checks the state and the ledger after a border of a valid state.
func wantBorder(t *testing.T, s impl.State, b impl.Border, want impl.State, ledger impl.Ledger) {
	t.Helper()
	got, l := impl.ApplyBorder(s, b)
	if !sameAsState(got, want) || l != ledger {
		t.Fatalf("ApplyBorder(%v, %+v) = %v, %+v; want %v, %+v", s, b, got, l, want, ledger)
	}
	wantExplained(t, s, got, l)
}

// wantNoBorder checks that a border is refused.
func wantNoBorder(t *testing.T, s impl.State, b impl.Border) {
	t.Helper()
	if got, l := impl.ApplyBorder(s, b); !sameAsState(got, s) || l != (impl.Ledger{}) {
		t.Fatalf("ApplyBorder(%v, %+v) = %v, %+v; want the state unchanged", s, b, got, l)
	}
}

// someBorders returns borders of all kinds.
func someBorders() []impl.Border {
	return []impl.Border{
		{}, {In: 1}, {In: 10000}, {InShare: 1000}, {Out: 1}, {Out: 250},
		{In: 1, InShare: 1, Out: 1}, {In: 10000, InShare: 1000, Out: 250}, {In: 10000, InShare: 0, Out: 249}, {In: 7, InShare: 999, Out: 0},
		{In: 9999, InShare: 1, Out: 2}, {In: 500, InShare: 333, Out: 100},
	}
}

// invalidBorders produces borders with one field out of its range, and with several ones.
func invalidBorders() iter.Seq[impl.Border] {
	return func(yield func(impl.Border) bool) {
		more := true
		for _, n := range append(extremeInts(), -1, 251, 252, 1000, 1001, 1002, 10000, 10001, 10002) {
			for _, b := range []impl.Border{
				{In: n, InShare: 5, Out: 250}, {In: n},
				{In: 10, InShare: n, Out: 250}, {InShare: n},
				{In: 10, InShare: 5, Out: n}, {Out: n},
				{In: n, InShare: n, Out: n},
			} {
				if b.In < 0 || b.InShare < 0 || b.Out < 0 || b.In > 10000 || b.InShare > 1000 || b.Out > 250 {
					more = more && yield(b)
				}
			}
		}
	}
}

func TestBorderOk(t *testing.T) {
	cases := []struct {
		name string
		b    impl.Border
		want bool
	}{
		{"nothing", impl.Border{}, true},
		{"the given example", impl.Border{In: 10, InShare: 5, Out: 250}, true},
		{"the greatest numbers", impl.Border{In: 10000, InShare: 1000, Out: 250}, true},
		{"1 in each field", impl.Border{In: 1, InShare: 1, Out: 1}, true},
		{"a share without mass", impl.Border{InShare: 1000}, true},
		{"an In of 10000", impl.Border{In: 10000}, true},
		{"an In of 10001", impl.Border{In: 10001}, false},
		{"an In of -1", impl.Border{In: -1}, false},
		{"an InShare of 1001", impl.Border{InShare: 1001}, false},
		{"an InShare of -1", impl.Border{InShare: -1}, false},
		{"an Out of 249", impl.Border{Out: 249}, true},
		{"an Out of 250", impl.Border{Out: 250}, true},
		{"an Out of 251", impl.Border{Out: 251}, false},
		{"an Out of -1", impl.Border{Out: -1}, false},
		{"an In of 10001 beside the greatest numbers", impl.Border{In: 10001, InShare: 1000, Out: 250}, false},
		{"an InShare of 1001 beside the greatest numbers", impl.Border{In: 10000, InShare: 1001, Out: 250}, false},
		{"an Out of 251 beside the greatest numbers", impl.Border{In: 10000, InShare: 1000, Out: 251}, false},
		{"all numbers one too great", impl.Border{In: 10001, InShare: 1001, Out: 251}, false},
		{"all numbers one too small", impl.Border{In: -1, InShare: -1, Out: -1}, false},
		{"the least numbers", impl.Border{In: math.MinInt, InShare: math.MinInt, Out: math.MinInt}, false},
		{"the greatest numbers of an int", impl.Border{In: math.MaxInt, InShare: math.MaxInt, Out: math.MaxInt}, false},
	}
	for _, c := range cases {
		if got := impl.BorderOk(c.b); got != c.want {
			t.Errorf("%s: BorderOk(%+v) = %v", c.name, c.b, got)
		}
	}
	for b := range invalidBorders() {
		if impl.BorderOk(b) {
			t.Errorf("BorderOk(%+v) = true", b)
		}
	}
	for _, b := range someBorders() {
		if !impl.BorderOk(b) {
			t.Errorf("BorderOk(%+v) = false", b)
		}
	}
}

// TestBorderOkOfAllNumbers asks for each number in and around the range of each field.
func TestBorderOkOfAllNumbers(t *testing.T) {
	for n := -300; n <= 10300; n++ {
		if got := impl.BorderOk(impl.Border{In: n, InShare: 7, Out: 7}); got != (n >= 0 && n <= 10000) {
			t.Fatalf("BorderOk with an In of %d is %v", n, got)
		}
		if got := impl.BorderOk(impl.Border{In: 7, InShare: n, Out: 7}); got != (n >= 0 && n <= 1000) {
			t.Fatalf("BorderOk with an InShare of %d is %v", n, got)
		}
		if got := impl.BorderOk(impl.Border{In: 7, InShare: 7, Out: n}); got != (n >= 0 && n <= 250) {
			t.Fatalf("BorderOk with an Out of %d is %v", n, got)
		}
	}
}

type borderCase struct {
	name                 string
	text                 string
	mass, tracer         []int
	b                    impl.Border
	wantMass, wantTracer []int
	massIn, massOut      int
	tracerIn, tracerOut  int
}

func wantBorderCases(t *testing.T, cases []borderCase) {
	t.Helper()
	byText := shapesByText()
	beds := []int{7, 0, 1000000, 3, 40, 5, 600, 1}
	for _, c := range cases {
		t.Run(c.name, func(t *testing.T) {
			m := meshWithText(t, c.text, byText)
			s := impl.State{Mesh: m, Mass: c.mass, Tracer: c.tracer, Bed: beds[:m.Roots]}
			want := impl.State{Mesh: m, Mass: c.wantMass, Tracer: c.wantTracer, Bed: beds[:m.Roots]}
			wantBorder(t, s, c.b, want, impl.Ledger{MassIn: c.massIn, MassOut: c.massOut, TracerIn: c.tracerIn, TracerOut: c.tracerOut})
		})
	}
}

// TestBordersOfOneLeaf has a leaf that is the first and the last one at once.
func TestBordersOfOneLeaf(t *testing.T) {
	numbers := func(n ...int) []int { return n }
	wantBorderCases(t, []borderCase{
		{"something enters and leaves", "0", numbers(400), numbers(1000), impl.Border{In: 10, InShare: 5, Out: 250}, numbers(310), numbers(800), 10, 100, 50, 250},
		{"nothing enters or leaves", "0", numbers(400), numbers(1000), impl.Border{}, numbers(400), numbers(1000), 0, 0, 0, 0},
		{"a share of nothing enters", "0", numbers(400), numbers(1000), impl.Border{InShare: 1000}, numbers(400), numbers(1000), 0, 0, 0, 0},
		{"what enters does not leave", "0", numbers(4), numbers(0), impl.Border{In: 1000, Out: 250}, numbers(1003), numbers(0), 1000, 1, 0, 0},
		{"what enters an empty leaf does not leave", "0", numbers(0), numbers(0), impl.Border{In: 10000, InShare: 1000, Out: 250}, numbers(10000), numbers(10000000), 10000, 0, 10000000, 0},
		{"the tracer that enters does not leave", "0", numbers(1000), numbers(0), impl.Border{In: 10000, InShare: 1000, Out: 250}, numbers(10750), numbers(10000000), 10000, 250, 10000000, 0},
		{"the tracer that leaves has the share from before", "0", numbers(1000), numbers(1000000), impl.Border{In: 10000, Out: 250}, numbers(10750), numbers(750000), 10000, 250, 0, 250000},
		{"too little to leave", "0", numbers(3), numbers(3000), impl.Border{In: 1, InShare: 1, Out: 250}, numbers(4), numbers(3001), 1, 0, 1, 0},
		{"an empty leaf and no border", "0", numbers(0), numbers(0), impl.Border{}, numbers(0), numbers(0), 0, 0, 0, 0},
		{"an empty leaf that something should leave", "0", numbers(0), numbers(0), impl.Border{Out: 250}, numbers(0), numbers(0), 0, 0, 0, 0},
		{"the greatest total, of which as much leaves as enters", "0", numbers(10000000), numbers(10000000000), impl.Border{In: 10000, InShare: 1000, Out: 1}, numbers(10000000), numbers(10000000000), 10000, 10000, 10000000, 10000000},
		{"the greatest total, and nothing leaves", "0", numbers(10000000), numbers(5), impl.Border{In: 1, InShare: 1000}, numbers(10000000), numbers(5), 0, 0, 0, 0},
		{"the greatest total, and a quarter leaves", "0", numbers(10000000), numbers(9999999999), impl.Border{In: 10000, InShare: 1000, Out: 250}, numbers(7510000), numbers(7510000000), 10000, 2500000, 10000000, 2499999999},
		{"a total that is reached exactly", "0", numbers(9990000), numbers(0), impl.Border{In: 10000, InShare: 1}, numbers(10000000), numbers(10000), 10000, 0, 10000, 0},
		{"a total that would be exceeded by 1", "0", numbers(9990001), numbers(0), impl.Border{In: 10000, InShare: 1}, numbers(9990001), numbers(0), 0, 0, 0, 0},
		{"a total that would be exceeded by 1 if nothing had left", "0", numbers(9990001), numbers(0), impl.Border{In: 10000, InShare: 1, Out: 1}, numbers(9990011), numbers(10000), 10000, 9990, 10000, 0},
	})
}

// TestBordersOfSeveralLeaves has leaves of different levels at both ends, and leaves between them that must not change.
func TestBordersOfSeveralLeaves(t *testing.T) {
	numbers := func(n ...int) []int { return n }
	b := impl.Border{In: 10, InShare: 5, Out: 250}
	wantBorderCases(t, []borderCase{
		{"the given example", "122", numbers(400, 0, 7), numbers(1000, 0, 21), b, numbers(410, 0, 6), numbers(1050, 0, 18), 10, 1, 50, 3},
		{"two leaves of one root", "11", numbers(7, 400), numbers(3, 1000), b, numbers(17, 300), numbers(53, 750), 10, 100, 50, 250},
		{"two leaves of two roots", "0|0", numbers(400, 7), numbers(1000, 3), b, numbers(410, 6), numbers(1050, 3), 10, 1, 50, 0},
		{"a finer leaf at the end", "0|12344", numbers(1, 2, 3, 4, 5, 400), numbers(1, 2, 3, 4, 5, 1001), b, numbers(11, 2, 3, 4, 5, 300), numbers(51, 2, 3, 4, 5, 751), 10, 100, 50, 250},
		{"a finer leaf at the beginning", "44321|0", numbers(1, 2, 3, 4, 5, 400), numbers(1, 2, 3, 4, 5, 1001), b, numbers(11, 2, 3, 4, 5, 300), numbers(51, 2, 3, 4, 5, 751), 10, 100, 50, 250},
		{"leaves that lose nothing in the middle", "122|11", numbers(49, 24, 24, 9000, 7), numbers(3, 0, 24000, 70, 6999), impl.Border{In: 10000, InShare: 1, Out: 250}, numbers(10049, 24, 24, 9000, 6), numbers(10003, 0, 24000, 70, 6000), 10000, 1, 10000, 999},
		{"a first leaf without mass and tracer", "0|11|0", numbers(0, 9, 9, 1000), numbers(0, 9, 9, 1000), impl.Border{In: 1, InShare: 1000, Out: 1}, numbers(1, 9, 9, 999), numbers(1000, 9, 9, 999), 1, 1, 1000, 1},
		{"a first leaf without mass, in which no tracer enters", "0|11|0", numbers(0, 9, 9, 1000), numbers(0, 9, 9, 1000), impl.Border{In: 1}, numbers(1, 9, 9, 1000), numbers(0, 9, 9, 1000), 1, 0, 0, 0},
		{"a first leaf without tracer", "0|11|0", numbers(8, 9, 9, 1000), numbers(0, 9, 9, 1000), impl.Border{In: 2, InShare: 3}, numbers(10, 9, 9, 1000), numbers(6, 9, 9, 1000), 2, 0, 6, 0},
		{"no mass anywhere", "0|11|0", numbers(0, 0, 0, 0), numbers(0, 0, 0, 0), impl.Border{In: 10000, InShare: 1000, Out: 250}, numbers(10000, 0, 0, 0), numbers(10000000, 0, 0, 0), 10000, 0, 10000000, 0},
		{"nothing enters or leaves", "0|11|0", numbers(8, 9, 9, 1000), numbers(8, 9, 9, 1000), impl.Border{InShare: 7}, numbers(8, 9, 9, 1000), numbers(8, 9, 9, 1000), 0, 0, 0, 0},
		{"eight roots", "0|0|0|0|0|0|0|0", numbers(1, 2, 3, 4, 5, 6, 7, 8), numbers(8, 7, 6, 5, 4, 3, 2, 1), b, numbers(11, 2, 3, 4, 5, 6, 7, 6), numbers(58, 7, 6, 5, 4, 3, 2, 1), 10, 2, 50, 0},
		{"sixteen leaves of the deepest level", "4444444444444444", slices.Repeat(numbers(8), 16), slices.Repeat(numbers(17), 16), b, slices.Concat(numbers(18), slices.Repeat(numbers(8), 14), numbers(6)), slices.Concat(numbers(67), slices.Repeat(numbers(17), 14), numbers(13)), 10, 2, 50, 4},
	})
}

// TestBordersAtTheGreatestTotal has channels that what enters fills up, or would fill up too far.
func TestBordersAtTheGreatestTotal(t *testing.T) {
	numbers := func(n ...int) []int { return n }
	in := impl.Border{In: 10000, InShare: 1000}
	wantBorderCases(t, []borderCase{
		{"reached exactly", "0|0", numbers(9000000, 990000), numbers(1, 2), in, numbers(9010000, 990000), numbers(10000001, 2), 10000, 0, 10000000, 0},
		{"exceeded by 1", "0|0", numbers(9000000, 990001), numbers(1, 2), in, numbers(9000000, 990001), numbers(1, 2), 0, 0, 0, 0},
		{"exceeded by 1 if nothing had left", "0|0", numbers(9000000, 990001), numbers(1, 2), impl.Border{In: 10000, InShare: 1000, Out: 1}, numbers(9010000, 989011), numbers(10000001, 2), 10000, 990, 10000000, 0},
		{"reached exactly after something has left", "0|0", numbers(9989997, 4), numbers(1, 4000), impl.Border{In: 10000, InShare: 2, Out: 250}, numbers(9999997, 3), numbers(20001, 3000), 10000, 1, 20000, 1000},
		{"exceeded by 1 after something has left", "0|0", numbers(9989998, 4), numbers(1, 4000), impl.Border{In: 10000, InShare: 2, Out: 250}, numbers(9989998, 3), numbers(1, 3000), 0, 1, 0, 1000},
		{"exceeded by 1 after much has left", "0|11", numbers(9000000, 0, 987000), numbers(0, 0, 987000), impl.Border{In: 10000, InShare: 1, Out: 1}, numbers(9010000, 0, 986013), numbers(10000, 0, 986013), 10000, 987, 10000, 987},
		{"all mass in the middle, and nothing enters", "0|0|0", numbers(0, 10000000, 0), numbers(0, 7, 0), impl.Border{In: 0, InShare: 1000, Out: 250}, numbers(0, 10000000, 0), numbers(0, 7, 0), 0, 0, 0, 0},
		{"all mass in the middle, exceeded by 1", "0|0|0", numbers(0, 10000000, 0), numbers(0, 7, 0), impl.Border{In: 1, InShare: 1000, Out: 250}, numbers(0, 10000000, 0), numbers(0, 7, 0), 0, 0, 0, 0},
		{"all mass but 1 in the middle, reached exactly", "0|0|0", numbers(0, 9999999, 0), numbers(0, 7, 0), impl.Border{In: 1, InShare: 1000, Out: 250}, numbers(1, 9999999, 0), numbers(1000, 7, 0), 1, 0, 1000, 0},
		{"all mass but 1 in the middle, exceeded by 1", "0|0|0", numbers(0, 9999999, 0), numbers(0, 7, 0), impl.Border{In: 2, InShare: 1000, Out: 250}, numbers(0, 9999999, 0), numbers(0, 7, 0), 0, 0, 0, 0},
		{"all mass in the last leaf, of which 1 leaves", "0|0", numbers(9999000, 1000), numbers(0, 1000000), impl.Border{In: 1, InShare: 1000, Out: 1}, numbers(9999001, 999), numbers(1000, 999000), 1, 1, 1000, 1000},
		{"all mass in the last leaf, and 2 enter for 1", "0|0", numbers(9999000, 1000), numbers(0, 1000000), impl.Border{In: 2, InShare: 1000, Out: 1}, numbers(9999000, 999), numbers(0, 999000), 0, 1, 0, 1000},
		{"the greatest tracer", "0|0", numbers(1, 9999999), numbers(1000, 9999999000), impl.Border{In: 10000, InShare: 1000, Out: 250}, numbers(10001, 7500000), numbers(10001000, 7500000000), 10000, 2499999, 10000000, 2499999000},
	})
}

// TestWhatLeavesTheLastLeaf has masses of which nearly nothing leaves, in channels of one leaf and of several ones.
func TestWhatLeavesTheLastLeaf(t *testing.T) {
	byText := shapesByText()
	masses := []int{0, 1, 3, 4, 999, 1000, 1001, 10000000}
	cases := []struct {
		out  int
		want []int
	}{
		{0, []int{0, 0, 0, 0, 0, 0, 0, 0}},
		{1, []int{0, 0, 0, 0, 0, 1, 1, 10000}},
		{249, []int{0, 0, 0, 0, 248, 249, 249, 2490000}},
		{250, []int{0, 0, 0, 1, 249, 250, 250, 2500000}},
	}
	for _, text := range []string{"0", "0|0", "11", "122|11", "0|12344", "44321"} {
		for _, c := range cases {
			for i, mass := range masses {
				count := len(leafDigits(text))
				p := plainState{text, make([]int, count), make([]int, count), make([]int, len(text)-count+1)}
				want := plainState{text, make([]int, count), make([]int, count), p.bed}
				p.mass[count-1], p.tracer[count-1] = mass, 1000*mass
				want.mass[count-1], want.tracer[count-1] = mass-c.want[i], 1000*(mass-c.want[i])
				wantBorder(t, p.state(t, byText), impl.Border{InShare: 9, Out: c.out}, want.state(t, byText), impl.Ledger{MassOut: c.want[i], TracerOut: 1000 * c.want[i]})
			}
		}
	}
}

// TestTheTracerThatLeaves has parts of a Tracer that do not divide evenly.
func TestTheTracerThatLeaves(t *testing.T) {
	cases := []struct {
		mass, tracer, out int
		want              int
	}{
		{1000, 0, 250, 0},
		{1000, 1, 250, 0},
		{1000, 3, 250, 0},
		{1000, 4, 250, 1},
		{1000, 7, 250, 1},
		{1000, 8, 250, 2},
		{1000, 1001, 250, 250},
		{1000, 999999, 250, 249999},
		{1000, 1000000, 250, 250000},
		{1000, 1000000, 1, 1000},
		{1000, 999999, 1, 999},
		{1000, 999, 1, 0},
		{7, 6, 250, 0},
		{7, 7, 250, 1},
		{7, 13, 250, 1},
		{7, 14, 250, 2},
		{7, 6999, 250, 999},
		{7, 7000, 250, 1000},
		{7, 7000, 142, 0},
		{7, 7000, 143, 1000},
		{999, 999, 249, 248},
		{999, 1000, 249, 248},
		{3, 3000, 250, 0},
		{10000000, 10000000000, 250, 2500000000},
		{10000000, 9999999999, 250, 2499999999},
		{9999999, 9999999000, 250, 2499999000},
		{9999999, 9999998999, 249, 2489999000 - 1},
	}
	byText := shapesByText()
	for _, c := range cases {
		for _, before := range []int{0, 1} {
			p := plainState{"0", []int{c.mass}, []int{c.tracer}, []int{5}}
			if before > 0 && c.mass < 10000000 {
				p = plainState{"0|0", []int{1, c.mass}, []int{1000, c.tracer}, []int{5, 6}}
			}
			s := p.state(t, byText)
			got, l := impl.ApplyBorder(s, impl.Border{Out: c.out})
			last := len(p.mass) - 1
			if l.TracerOut != c.want || got.Tracer[last] != c.tracer-c.want {
				t.Errorf("of %d in %d, an Out of %d leaves %d, and takes %d; want %d", c.tracer, c.mass, c.out, got.Tracer[last], l.TracerOut, c.want)
			}
			wantExplained(t, s, got, l)
		}
	}
}

// TestBordersOfKnownStates compares ApplyBorder with its oracle, on states of all shapes.
func TestBordersOfKnownStates(t *testing.T) {
	byText := shapesByText()
	borders := someBorders()
	for n, p := range fluxPlains() {
		s := p.state(t, byText)
		for _, b := range []impl.Border{borders[n%len(borders)], borders[(n/len(borders))%len(borders)], {In: n * 31 % 10001, InShare: n * 7 % 1001, Out: n % 251}} {
			after, l := borderPlain(p, b)
			wantBorder(t, s, b, after.state(t, byText), l)
		}
	}
	for _, s := range baseStates(t) {
		p := plainState{impl.FormatMesh(s.Mesh), s.Mass, s.Tracer, s.Bed}
		for _, b := range borders {
			after, l := borderPlain(p, b)
			wantBorder(t, s, b, after.state(t, byText), l)
		}
	}
}

// TestEachOutOfOneLeaf has each Out, and masses around the numbers at which the quotient changes.
func TestEachOutOfOneLeaf(t *testing.T) {
	byText := shapesByText()
	for out := range 251 {
		for n, mass := range []int{0, 1, 3, 4, 5, 999, 1000, 1001, 1999, 4000, 65535, 9999999, 10000000} {
			for _, tracer := range []int{0, mass / 2, 333*mass + n%2*mass/3, max(0, 1000*mass-1), 1000 * mass} {
				p := plainState{"0", []int{mass}, []int{tracer}, []int{n}}
				b := impl.Border{In: 37 * out, InShare: 3 * out, Out: out}
				after, l := borderPlain(p, b)
				wantBorder(t, p.state(t, byText), b, after.state(t, byText), l)
			}
		}
	}
}

// TestFullChannels adds to channels with little room, in which nothing or something has to leave before.
func TestFullChannels(t *testing.T) {
	byText := shapesByText()
	entered, refused, made := 0, 0, 0
	for n, p := range balancedPlains() {
		full := plainState{p.text, slices.Clone(p.mass), p.tracer, p.bed}
		at := n % len(full.mass)
		room := 10000000
		for _, mass := range full.mass {
			room -= mass
		}
		for _, rest := range []int{0, 1, 2, 99, 100, 101, 9999, 10000, 10001} {
			full.mass[at] = p.mass[at] + room - rest
			for _, b := range []impl.Border{{In: 100, InShare: 7}, {In: 100, InShare: 7, Out: 1}, {In: 10000, InShare: 1000, Out: 250}} {
				after, l := borderPlain(full, b)
				wantBorder(t, full.state(t, byText), b, after.state(t, byText), l)
				switch {
				case l.MassIn == 0:
					refused++
				case rest < b.In:
					made++
				default:
					entered++
				}
			}
		}
	}
	if min(entered, refused, made) < 1000 {
		t.Errorf("mass entered %d times, was refused %d times, and entered %d times since mass had left", entered, refused, made)
	}
}

// TestABorderIsWhatLeavesAndThenWhatEnters divides a border in two, whose order counts in channels with one leaf.
func TestABorderIsWhatLeavesAndThenWhatEnters(t *testing.T) {
	byText := shapesByText()
	plains := fluxPlains()
	for n := range 40 {
		plains = append(plains, filledPlain("0", n))
	}
	differ := 0
	for n, p := range plains {
		s := p.state(t, byText)
		b := impl.Border{In: 1 + n*31%10000, InShare: n * 7 % 1001, Out: 1 + n%250}
		in, out := impl.Border{In: b.In, InShare: b.InShare}, impl.Border{Out: b.Out}
		less, left := impl.ApplyBorder(s, out)
		want, entered := impl.ApplyBorder(less, in)
		wantBorder(t, s, b, want, impl.LedgerAdd(left, entered))
		wantExplained(t, s, want, impl.LedgerAdd(entered, left))
		more, _ := impl.ApplyBorder(s, in)
		if other, _ := impl.ApplyBorder(more, out); !sameAsState(other, want) {
			differ++
			if len(s.Mass) > 1 {
				t.Fatalf("the order counts in %v with the border %+v, although it has several leaves and room", s, b)
			}
		}
	}
	if differ < 20 {
		t.Errorf("the order counts only %d times", differ)
	}
}

// TestALedgerExplainsWhatEntersAndLeaves states the promise itself, over many borders in a row, with steps and changes
// of the mesh between them, which neither create nor lose anything.
func TestALedgerExplainsWhatEntersAndLeaves(t *testing.T) {
	byText := shapesByText()
	borders := someBorders()
	plains := append(richPlains(), filledPlain("0", 6), filledPlain("11", 4), filledPlain("12344|3321|0|11|2233443", 3), filledPlain("4444444444444444|33222|11", 5))
	for n, p := range plains {
		first := p.state(t, byText)
		last, sum := first, impl.Ledger{}
		for step := range 200 {
			b := borders[(5*step+n)%len(borders)]
			next, l := impl.ApplyBorder(last, b)
			wantExplained(t, last, next, l)
			sum = impl.LedgerAdd(sum, l)
			wantExplained(t, first, next, sum)
			if step%2 == 0 {
				next = impl.MacroStep(next)
			} else if finer, ok := impl.BalanceRefine(next, step%len(next.Mass)); ok && step%3 == 0 {
				next = finer
			} else if coarser, ok := impl.CoarsenState(next, step%len(next.Mass)); ok {
				next = coarser
			}
			wantExplained(t, first, next, sum)
			last = next
		}
		if sum.MassIn == 0 || sum.MassOut == 0 || sum.TracerIn == 0 || sum.TracerOut == 0 {
			t.Errorf("a field of the ledger %+v is 0 after many borders of %v", sum, p)
		}
	}
}

// TestSharesAtTheBorders checks that what leaves and what stays has no other share than before, and that what enters
// brings no other share than its own.
func TestSharesAtTheBorders(t *testing.T) {
	byText := shapesByText()
	for n, p := range fluxPlains() {
		s := brewedPlain(p).state(t, byText)
		if impl.TotalMass(s) == 0 {
			continue
		}
		for _, share := range []int{0, 3, 7, 12, 1000} {
			b := impl.Border{In: 1 + n*31%10000, InShare: share, Out: n % 251}
			after, l := impl.ApplyBorder(s, b)
			greatest, least := max(impl.GreatestShare(s), share), min(impl.LeastShare(s), share)
			if impl.GreatestShare(after) > greatest || impl.LeastShare(after) < least {
				t.Fatalf("the shares of %v lie between %d and %d after the border %+v of %v", after, impl.LeastShare(after), impl.GreatestShare(after), b, s)
			}
			if l.TracerOut > impl.GreatestShare(s)*l.MassOut {
				t.Fatalf("%d in %d leave %v, whose greatest share is %d", l.TracerOut, l.MassOut, s, impl.GreatestShare(s))
			}
		}
	}
}

// wrapped returns the sum of two numbers, less or more 2^64 if it exceeds the range of an int.
func wrapped(a int, b int) int {
	sum := new(big.Int).Add(big.NewInt(int64(a)), big.NewInt(int64(b)))
	whole := new(big.Int).Lsh(big.NewInt(1), 64)
	for sum.Cmp(big.NewInt(math.MaxInt)) > 0 {
		sum.Sub(sum, whole)
	}
	for sum.Cmp(big.NewInt(math.MinInt)) < 0 {
		sum.Add(sum, whole)
	}
	return int(sum.Int64())
}

func wantAdded(t *testing.T, a impl.Ledger, b impl.Ledger) {
	t.Helper()
	want := impl.Ledger{MassIn: wrapped(a.MassIn, b.MassIn), MassOut: wrapped(a.MassOut, b.MassOut), TracerIn: wrapped(a.TracerIn, b.TracerIn), TracerOut: wrapped(a.TracerOut, b.TracerOut)}
	if got, other := impl.LedgerAdd(a, b), impl.LedgerAdd(b, a); got != want || other != want {
		t.Fatalf("LedgerAdd of %+v and %+v is %+v, and %+v in the other order; want %+v", a, b, got, other, want)
	}
}

func TestLedgerAdd(t *testing.T) {
	most, least := math.MaxInt, math.MinInt
	cases := []struct {
		name       string
		a, b, want impl.Ledger
	}{
		{"two zero ledgers", impl.Ledger{}, impl.Ledger{}, impl.Ledger{}},
		{"positive fields", impl.Ledger{MassIn: 1, MassOut: 2, TracerIn: 3, TracerOut: 4}, impl.Ledger{MassIn: 50, MassOut: 60, TracerIn: 70, TracerOut: 80}, impl.Ledger{MassIn: 51, MassOut: 62, TracerIn: 73, TracerOut: 84}},
		{"negative fields", impl.Ledger{MassIn: -1, MassOut: -2, TracerIn: -3, TracerOut: -4}, impl.Ledger{MassIn: -50, MassOut: -60, TracerIn: -70, TracerOut: -80}, impl.Ledger{MassIn: -51, MassOut: -62, TracerIn: -73, TracerOut: -84}},
		{"fields of both signs", impl.Ledger{MassIn: -1, MassOut: 2, TracerIn: -3, TracerOut: 4}, impl.Ledger{MassIn: 50, MassOut: -60, TracerIn: 70, TracerOut: -80}, impl.Ledger{MassIn: 49, MassOut: -58, TracerIn: 67, TracerOut: -76}},
		{"fields that become 0", impl.Ledger{MassIn: -1, MassOut: 2, TracerIn: -3, TracerOut: 4}, impl.Ledger{MassIn: 1, MassOut: -2, TracerIn: 3, TracerOut: -4}, impl.Ledger{}},
		{"one field each", impl.Ledger{MassIn: 5}, impl.Ledger{TracerOut: 6}, impl.Ledger{MassIn: 5, TracerOut: 6}},
		{"the other field each", impl.Ledger{MassOut: 5}, impl.Ledger{TracerIn: 6}, impl.Ledger{MassOut: 5, TracerIn: 6}},
		{"the greatest numbers and 1", impl.Ledger{MassIn: most, MassOut: most, TracerIn: most, TracerOut: most}, impl.Ledger{MassIn: 1, MassOut: 1, TracerIn: 1, TracerOut: 1}, impl.Ledger{MassIn: least, MassOut: least, TracerIn: least, TracerOut: least}},
		{"the least numbers and -1", impl.Ledger{MassIn: least, MassOut: least, TracerIn: least, TracerOut: least}, impl.Ledger{MassIn: -1, MassOut: -1, TracerIn: -1, TracerOut: -1}, impl.Ledger{MassIn: most, MassOut: most, TracerIn: most, TracerOut: most}},
		{"the greatest numbers twice", impl.Ledger{MassIn: most, MassOut: most, TracerIn: most, TracerOut: most}, impl.Ledger{MassIn: most, MassOut: most, TracerIn: most, TracerOut: most}, impl.Ledger{MassIn: -2, MassOut: -2, TracerIn: -2, TracerOut: -2}},
		{"the least numbers twice", impl.Ledger{MassIn: least, MassOut: least, TracerIn: least, TracerOut: least}, impl.Ledger{MassIn: least, MassOut: least, TracerIn: least, TracerOut: least}, impl.Ledger{}},
		{"the greatest and the least numbers", impl.Ledger{MassIn: most, MassOut: least, TracerIn: most, TracerOut: least}, impl.Ledger{MassIn: least, MassOut: most, TracerIn: least, TracerOut: most}, impl.Ledger{MassIn: -1, MassOut: -1, TracerIn: -1, TracerOut: -1}},
		{"one field that wraps around", impl.Ledger{MassIn: 1, MassOut: 2, TracerIn: most, TracerOut: 4}, impl.Ledger{MassIn: 1, MassOut: 2, TracerIn: 3, TracerOut: 4}, impl.Ledger{MassIn: 2, MassOut: 4, TracerIn: least + 2, TracerOut: 8}},
	}
	for _, c := range cases {
		wantAdded(t, c.a, c.b)
		if got := impl.LedgerAdd(c.a, c.b); got != c.want {
			t.Errorf("%s: LedgerAdd(%+v, %+v) = %+v; want %+v", c.name, c.a, c.b, got, c.want)
		}
	}
}

// ledgersWith returns ledgers in which a number is in one field, and in all fields.
func ledgersWith(n int) []impl.Ledger {
	return []impl.Ledger{{MassIn: n}, {MassOut: n}, {TracerIn: n}, {TracerOut: n}, {MassIn: n, MassOut: n, TracerIn: n, TracerOut: n}, {MassIn: n, MassOut: -n, TracerIn: n - 1, TracerOut: n + 1}}
}

func TestLedgerAddAtExtremes(t *testing.T) {
	for _, m := range extremeInts() {
		for _, n := range extremeInts() {
			for _, a := range ledgersWith(m) {
				for _, b := range ledgersWith(n) {
					wantAdded(t, a, b)
				}
			}
		}
	}
}

// TestSumsOfLedgers adds three ledgers in both ways, and the zero ledger.
func TestSumsOfLedgers(t *testing.T) {
	for _, n := range extremeInts() {
		for _, a := range ledgersWith(n) {
			if got := impl.LedgerAdd(a, impl.Ledger{}); got != a {
				t.Errorf("LedgerAdd of %+v and nothing is %+v", a, got)
			}
			b, c := impl.Ledger{MassIn: n / 2, MassOut: 5, TracerIn: -n, TracerOut: 1 << 62}, impl.Ledger{MassIn: 7, MassOut: n, TracerIn: math.MaxInt, TracerOut: 1 << 62}
			if left, right := impl.LedgerAdd(impl.LedgerAdd(a, b), c), impl.LedgerAdd(a, impl.LedgerAdd(b, c)); left != right {
				t.Errorf("the sums of %+v, %+v and %+v are %+v and %+v", a, b, c, left, right)
			}
		}
	}
}

type holdsCase struct {
	name                   string
	text, textAfter        string
	mass, tracer           []int
	massAfter, tracerAfter []int
	l                      impl.Ledger
	want                   bool
}

func TestLedgerHolds(t *testing.T) {
	byText := shapesByText()
	numbers := func(n ...int) []int { return n }
	most, least := math.MaxInt, math.MinInt
	for _, c := range []holdsCase{
		{"no change and no ledger", "11", "11", numbers(5, 6), numbers(7, 8), numbers(5, 6), numbers(7, 8), impl.Ledger{}, true},
		{"no sum and no ledger", "11", "11", numbers(0, 0), numbers(0, 0), numbers(0, 0), numbers(0, 0), impl.Ledger{}, true},
		{"mass within the state", "11", "11", numbers(5, 6), numbers(7, 8), numbers(9, 2), numbers(7, 8), impl.Ledger{}, true},
		{"tracer within the state", "11", "11", numbers(5, 6), numbers(7, 8), numbers(5, 6), numbers(15, 0), impl.Ledger{}, true},
		{"mass that entered", "11", "11", numbers(5, 6), numbers(7, 8), numbers(7, 6), numbers(7, 8), impl.Ledger{MassIn: 2}, true},
		{"mass that entered and is not in the ledger", "11", "11", numbers(5, 6), numbers(7, 8), numbers(7, 6), numbers(7, 8), impl.Ledger{}, false},
		{"mass that entered and is in the ledger as what left", "11", "11", numbers(5, 6), numbers(7, 8), numbers(7, 6), numbers(7, 8), impl.Ledger{MassOut: 2}, false},
		{"mass that entered and is in the ledger as what left, negative", "11", "11", numbers(5, 6), numbers(7, 8), numbers(7, 6), numbers(7, 8), impl.Ledger{MassOut: -2}, true},
		{"mass that entered and is in the ledger as tracer", "11", "11", numbers(5, 6), numbers(7, 8), numbers(7, 6), numbers(7, 8), impl.Ledger{TracerIn: 2}, false},
		{"mass that left", "11", "11", numbers(5, 6), numbers(7, 8), numbers(5, 4), numbers(7, 8), impl.Ledger{MassOut: 2}, true},
		{"mass that left and is in the ledger as what entered", "11", "11", numbers(5, 6), numbers(7, 8), numbers(5, 4), numbers(7, 8), impl.Ledger{MassIn: 2}, false},
		{"mass that left and is in the ledger as what entered, negative", "11", "11", numbers(5, 6), numbers(7, 8), numbers(5, 4), numbers(7, 8), impl.Ledger{MassIn: -2}, true},
		{"tracer that entered", "11", "11", numbers(5, 6), numbers(7, 8), numbers(5, 6), numbers(10, 8), impl.Ledger{TracerIn: 3}, true},
		{"tracer that entered and is in the ledger as mass", "11", "11", numbers(5, 6), numbers(7, 8), numbers(5, 6), numbers(10, 8), impl.Ledger{MassIn: 3}, false},
		{"tracer that left", "11", "11", numbers(5, 6), numbers(7, 8), numbers(5, 6), numbers(7, 5), impl.Ledger{TracerOut: 3}, true},
		{"tracer that left and is in the ledger as what entered", "11", "11", numbers(5, 6), numbers(7, 8), numbers(5, 6), numbers(7, 5), impl.Ledger{TracerIn: 3}, false},
		{"tracer that left and is in the ledger as mass", "11", "11", numbers(5, 6), numbers(7, 8), numbers(5, 6), numbers(7, 5), impl.Ledger{MassOut: 3}, false},
		{"fields that cancel each other out", "11", "11", numbers(5, 6), numbers(7, 8), numbers(5, 6), numbers(7, 8), impl.Ledger{MassIn: 9, MassOut: 9, TracerIn: 1, TracerOut: 1}, true},
		{"negative fields that cancel each other out", "11", "11", numbers(5, 6), numbers(7, 8), numbers(5, 6), numbers(7, 8), impl.Ledger{MassIn: -9, MassOut: -9, TracerIn: -1, TracerOut: -1}, true},
		{"fields of mass and tracer that do not cancel each other out", "11", "11", numbers(5, 6), numbers(7, 8), numbers(5, 6), numbers(7, 8), impl.Ledger{MassIn: 9, TracerOut: 9}, false},
		{"fields that have the sum 0", "11", "11", numbers(5, 6), numbers(7, 8), numbers(5, 6), numbers(7, 8), impl.Ledger{MassIn: 9, MassOut: -9}, false},
		{"the greatest fields that cancel each other out", "11", "11", numbers(5, 6), numbers(7, 8), numbers(5, 6), numbers(7, 8), impl.Ledger{MassIn: most, MassOut: most, TracerIn: most, TracerOut: most}, true},
		{"the least fields that cancel each other out", "11", "11", numbers(5, 6), numbers(7, 8), numbers(5, 6), numbers(7, 8), impl.Ledger{MassIn: least, MassOut: least, TracerIn: least, TracerOut: least}, true},
		{"the greatest field, and one less", "11", "11", numbers(5, 6), numbers(7, 8), numbers(5, 7), numbers(7, 8), impl.Ledger{MassIn: most, MassOut: most - 1}, true},
		{"a sum that wraps around at both ends", "11", "11", numbers(5, 6), numbers(7, 8), numbers(5, 7), numbers(7, 6), impl.Ledger{MassIn: least, MassOut: most, TracerIn: most - 1, TracerOut: most + least + 2}, false},
		{"a difference that wraps around to 1", "11", "11", numbers(5, 6), numbers(7, 8), numbers(5, 7), numbers(7, 8), impl.Ledger{MassIn: least, MassOut: most}, true},
		{"a difference that wraps around to -1", "11", "11", numbers(5, 6), numbers(7, 8), numbers(5, 6), numbers(7, 7), impl.Ledger{TracerIn: most, TracerOut: least}, true},
		{"two finer leaves", "0", "11", numbers(5), numbers(7), numbers(3, 2), numbers(4, 3), impl.Ledger{}, true},
		{"two finer leaves and mass that entered", "0", "11", numbers(5), numbers(7), numbers(3, 3), numbers(4, 3), impl.Ledger{MassIn: 1}, true},
		{"another number of roots", "0", "0|11|0", numbers(5), numbers(7), numbers(1, 1, 1, 1), numbers(1, 2, 3, 2), impl.Ledger{MassOut: 1, TracerIn: 1}, true},
		{"another number of roots, and the wrong ledger", "0", "0|11|0", numbers(5), numbers(7), numbers(1, 1, 1, 1), numbers(1, 2, 3, 2), impl.Ledger{MassOut: 1}, false},
		{"from nothing to the greatest totals", "0", "0", numbers(0), numbers(0), numbers(10000000), numbers(10000000000), impl.Ledger{MassIn: 10000000, TracerIn: 10000000000}, true},
		{"from the greatest totals to nothing", "0", "0", numbers(10000000), numbers(10000000000), numbers(0), numbers(0), impl.Ledger{MassOut: 10000000, TracerOut: 10000000000}, true},
	} {
		before := cleanPlain(c.text, c.mass, make([]int, len(c.text)-len(leafDigits(c.text))+1))
		after := cleanPlain(c.textAfter, c.massAfter, make([]int, len(c.textAfter)-len(leafDigits(c.textAfter))+1))
		before.tracer, after.tracer = c.tracer, c.tracerAfter
		wantTotals(t, before.state(t, byText))
		wantTotals(t, after.state(t, byText))
		if got := wantHolds(t, before.state(t, byText), after.state(t, byText), c.l); got != c.want {
			t.Errorf("%s: LedgerHolds(%v, %v, %+v) is %v", c.name, before, after, c.l, got)
		}
		back := impl.Ledger{MassIn: c.l.MassOut, MassOut: c.l.MassIn, TracerIn: c.l.TracerOut, TracerOut: c.l.TracerIn}
		if got := impl.LedgerHolds(after.state(t, byText), before.state(t, byText), back); got != c.want {
			t.Errorf("%s: LedgerHolds(%v, %v, %+v) is %v", c.name, after, before, back, got)
		}
	}
}

// TestLedgerHoldsForAllPairs compares each known state with each other one.
func TestLedgerHoldsForAllPairs(t *testing.T) {
	states := baseStates(t)
	for _, before := range states {
		for _, after := range states {
			mass, tracer := impl.TotalMass(after)-impl.TotalMass(before), impl.TotalTracer(after)-impl.TotalTracer(before)
			for _, n := range append(extremeInts(), mass, tracer) {
				wantExplained(t, before, after, impl.Ledger{MassIn: mass, TracerIn: tracer})
				for _, l := range append(ledgersWith(n), impl.Ledger{MassIn: n, MassOut: n - mass, TracerIn: n, TracerOut: n - tracer}, impl.Ledger{MassIn: n, MassOut: n - mass, TracerIn: n, TracerOut: n - tracer + 1}) {
					wantHolds(t, before, after, l)
				}
				if !impl.LedgerHolds(before, after, impl.Ledger{MassIn: n + mass, MassOut: n, TracerIn: tracer - n, TracerOut: -n}) {
					t.Fatalf("LedgerHolds(%v, %v) is false with %d", before, after, n)
				}
			}
		}
	}
}

// wantNoHold checks that no ledger explains anything if a state is not valid.
func wantNoHold(t *testing.T, s impl.State, good impl.State) {
	t.Helper()
	for _, l := range []impl.Ledger{{}, {MassIn: impl.TotalMass(good), TracerIn: impl.TotalTracer(good)}, {MassOut: impl.TotalMass(good), TracerOut: impl.TotalTracer(good)}} {
		if impl.LedgerHolds(s, good, l) || impl.LedgerHolds(good, s, l) || impl.LedgerHolds(s, s, l) {
			t.Fatalf("LedgerHolds of %v, which is not valid, and %v is true with %+v", s, good, l)
		}
	}
}

func TestBordersOfInvalidStates(t *testing.T) {
	byText := shapesByText()
	empty, full := filledPlain("0", 0).state(t, byText), baseStates(t)[1]
	count := 0
	for s := range invalidStates(t) {
		borders := someBorders()
		count++
		wantNoBorder(t, s, borders[count%len(borders)])
		wantNoBorder(t, s, impl.Border{In: 10, InShare: 5, Out: 250})
		wantNoHold(t, s, empty)
		wantNoHold(t, s, full)
	}
	for _, s := range almostValidStates(t) {
		for _, b := range someBorders() {
			wantNoBorder(t, s, b)
		}
		wantNoBorder(t, s, impl.Border{In: -1})
		wantNoHold(t, s, empty)
	}
}

// TestBordersOfRichStatesThatAreNotValid has states of which one list is spoilt, whose first and last leaves are not empty.
func TestBordersOfRichStatesThatAreNotValid(t *testing.T) {
	byText := shapesByText()
	for _, p := range richPlains() {
		s := p.state(t, byText)
		for spoilt := range spoiltStates(s) {
			wantNoBorder(t, spoilt, impl.Border{In: 10, InShare: 5, Out: 250})
			wantNoHold(t, spoilt, s)
		}
		for i, mass := range s.Mass {
			for _, c := range []blend{{1000*mass + 1, mass}, {-1, mass}, {0, -1}, {1, 0}, {1, 10000001 - impl.TotalMass(s) + mass}} {
				almost := copyOfState(s)
				almost.Mass[i], almost.Tracer[i] = c.mass, c.tracer
				wantNoBorder(t, almost, impl.Border{In: 10, InShare: 5, Out: 250})
				wantNoHold(t, almost, s)
			}
		}
	}
}

// TestAStateThatABorderWouldMakeValid has one unit too much in the last leaf, which would leave it.
func TestAStateThatABorderWouldMakeValid(t *testing.T) {
	m, _ := impl.ParseMesh("0|0")
	wantNoBorder(t, impl.State{Mesh: m, Mass: []int{9999997, 4}, Tracer: []int{0, 0}, Bed: []int{0, 0}}, impl.Border{Out: 250})
	wantNoBorder(t, impl.State{Mesh: m, Mass: []int{0, 4}, Tracer: []int{1, 0}, Bed: []int{0, 0}}, impl.Border{In: 10, Out: 250})
}

func TestBordersThatAreNotValid(t *testing.T) {
	byText := shapesByText()
	states := baseStates(t)
	for _, p := range richPlains() {
		states = append(states, p.state(t, byText))
	}
	for _, s := range append(states, impl.State{}) {
		for b := range invalidBorders() {
			wantNoBorder(t, s, b)
		}
	}
}

// TestBordersReturnNewMemory looks at the states after borders at which something, or nothing, happens, and after
// borders that are refused.
func TestBordersReturnNewMemory(t *testing.T) {
	byText := shapesByText()
	states := slices.Concat(baseStates(t), unevenStates(t), []impl.State{{}, {Mass: []int{1}, Tracer: []int{2}, Bed: []int{3}}})
	for _, p := range richPlains() {
		states = append(states, p.state(t, byText))
	}
	for _, s := range states {
		for _, b := range append(someBorders(), impl.Border{Out: 251}, impl.Border{In: -1}) {
			_, want := impl.ApplyBorder(s, b)
			wantOwnMemory(t, "ApplyBorder", s, func(s impl.State) (impl.State, bool) {
				got, l := impl.ApplyBorder(s, b)
				return got, l == want
			})
			got, _ := impl.ApplyBorder(withSpare(s), b)
			wantSeparateLists(t, got)
		}
	}
}

// TestLedgersChangeNothing calls LedgerHolds with spare capacity behind the lists, which must not count.
func TestLedgersChangeNothing(t *testing.T) {
	for _, s := range append(baseStates(t), unevenStates(t)...) {
		given, other := withSpare(s), withSpare(s)
		before := copyOfState(withAll(given))
		for _, l := range append(ledgersBeside(impl.Ledger{}), impl.Ledger{}) {
			if got, want := impl.LedgerHolds(given, other, l), impl.LedgerHolds(s, s, l); got != want || got != (impl.StateOk(s) && l == impl.Ledger{}) {
				t.Errorf("LedgerHolds of %v and %+v is %v, and %v with spare capacity", s, l, want, got)
			}
		}
		if !sameAsState(withAll(given), before) || !sameAsState(withAll(other), before) {
			t.Errorf("the state %v has been changed: %v, %v", before, withAll(given), withAll(other))
		}
	}
}

// TestBordersOfListsOfOneArray has a state whose lists lie in one array, one behind the other.
func TestBordersOfListsOfOneArray(t *testing.T) {
	m, _ := impl.ParseMesh("11")
	numbers := []int{500, 100, 1000, 50, 7}
	s := impl.State{Mesh: m, Mass: numbers[0:2], Tracer: numbers[2:4], Bed: numbers[4:5]}
	got, l := impl.ApplyBorder(s, impl.Border{In: 10, InShare: 5, Out: 250})
	want := impl.State{Mesh: m, Mass: []int{510, 75}, Tracer: []int{1050, 38}, Bed: []int{7}}
	if !sameAsState(got, want) || l != (impl.Ledger{MassIn: 10, MassOut: 25, TracerIn: 50, TracerOut: 12}) {
		t.Errorf("ApplyBorder gives %v, %+v", got, l)
	}
	if !slices.Equal(numbers, []int{500, 100, 1000, 50, 7}) {
		t.Errorf("the array is %v", numbers)
	}
}
