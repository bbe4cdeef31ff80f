package tests

import (
	"math/big"
	"slices"
	"testing"

	"loop.example/g00982/impl"
)

const greatestTracer = 10000000000

// plainDecay is the oracle of what a rate takes of a tracer: so much of each whole thousand, and a part of the rest.
func plainDecay(tracer int, rate int) int {
	return tracer/1000*rate + tracer%1000*rate/1000
}

// decayPlain is the oracle of DecayAll.
func decayPlain(p plainState, rate int) (plainState, impl.Ledger) {
	after := plainState{p.text, p.mass, slices.Clone(p.tracer), p.bed}
	l := impl.Ledger{}
	for i, tracer := range p.tracer {
		after.tracer[i] -= plainDecay(tracer, rate)
		l.TracerOut += plainDecay(tracer, rate)
	}
	return after, l
}

// plainTicks is the oracle of DecayTicks, for numbers within their ranges.
func plainTicks(tracer int, rate int, limit int) int {
	if tracer <= limit {
		return 0
	}
	less := tracer - plainDecay(tracer, rate)
	if less == tracer {
		return -1
	}
	more := plainTicks(less, rate, limit)
	if more < 0 {
		return -1
	}
	return more + 1
}

// plainStable is the oracle of StableAmount: it looks for the least amount of which a positive rate takes something.
func plainStable(rate int) int {
	amount := 0
	for plainDecay(amount+1, rate) == 0 {
		amount++
	}
	return amount
}

// decayRates returns rates of all kinds, and the least and the greatest ones.
func decayRates() []int {
	return []int{0, 1, 2, 3, 7, 100, 332, 333, 334, 499, 500, 501, 666, 667, 998, 999, 1000}
}

// ratesOutOfRange returns rates that are refused.
func ratesOutOfRange() []int {
	return slices.DeleteFunc(append(extremeInts(), -1000, -500, 1001, 1002, 1500, 2000, 10000, 1<<54, 1<<61+500, -1<<61), func(n int) bool { return n >= 0 && n <= 1000 })
}

// tracersOutOfRange returns tracers and limits that are refused.
func tracersOutOfRange() []int {
	return slices.DeleteFunc(append(extremeInts(), -greatestTracer, greatestTracer+1, greatestTracer+1000, 2*greatestTracer, 1<<54, 1<<61), func(n int) bool { return n >= 0 && n <= greatestTracer })
}

// wantDecay checks the state and the ledger after the decay of a valid state.
func wantDecay(t *testing.T, s impl.State, rate int, want impl.State, ledger impl.Ledger) {
	t.Helper()
	got, l := impl.DecayAll(s, rate)
	if !sameAsState(got, want) || l != ledger {
		t.Fatalf("DecayAll(%v, %d) = %v, %+v; want %v, %+v", s, rate, got, l, want, ledger)
	}
	if !slices.Equal(got.Mass, s.Mass) || !slices.Equal(got.Bed, s.Bed) || !impl.SameMesh(got.Mesh, s.Mesh) {
		t.Fatalf("DecayAll(%v, %d) = %v; only the tracer decays", s, rate, got)
	}
	wantExplained(t, s, got, l)
}

// wantPlainDecay compares a decay with its oracle, and returns what is removed.
func wantPlainDecay(t *testing.T, p plainState, rate int, byText map[string]rootShape) int {
	t.Helper()
	after, l := decayPlain(p, rate)
	wantDecay(t, p.state(t, byText), rate, after.state(t, byText), l)
	return l.TracerOut
}

// wantNoDecay checks that a decay is refused.
func wantNoDecay(t *testing.T, s impl.State, rate int) {
	t.Helper()
	if got, l := impl.DecayAll(s, rate); !sameAsState(got, s) || l != (impl.Ledger{}) {
		t.Fatalf("DecayAll(%v, %d) = %v, %+v; want the state unchanged", s, rate, got, l)
	}
}

func wantTicks(t *testing.T, tracer int, rate int, limit int, want int) {
	t.Helper()
	if got := impl.DecayTicks(tracer, rate, limit); got != want {
		t.Fatalf("DecayTicks(%d, %d, %d) = %d; want %d", tracer, rate, limit, got, want)
	}
}

// onePlain returns a channel of one leaf, with a Mass that can hold a tracer.
func onePlain(tracer int) plainState {
	return plainState{"0", []int{(tracer + 999) / 1000}, []int{tracer}, []int{0}}
}

func TestWhatDecays(t *testing.T) {
	byText := shapesByText()
	for _, c := range []struct{ tracer, rate, want int }{
		{0, 0, 0},
		{0, 1, 0},
		{0, 1000, 0},
		{1, 0, 0},
		{1, 1, 0},
		{1, 999, 0},
		{1, 1000, 1},
		{2, 499, 0},
		{2, 500, 1},
		{2, 501, 1},
		{2, 999, 1},
		{2, 1000, 2},
		{3, 333, 0},
		{3, 334, 1},
		{3, 500, 1},
		{3, 666, 1},
		{3, 667, 2},
		{3, 999, 2},
		{4, 333, 1},
		{4, 500, 2},
		{7, 333, 2},
		{9, 100, 0},
		{10, 100, 1},
		{19, 100, 1},
		{20, 100, 2},
		{21, 100, 2},
		{499, 2, 0},
		{500, 2, 1},
		{998, 1, 0},
		{999, 1, 0},
		{999, 2, 1},
		{999, 500, 499},
		{999, 999, 998},
		{999, 1000, 999},
		{1000, 0, 0},
		{1000, 1, 1},
		{1000, 2, 2},
		{1000, 333, 333},
		{1000, 500, 500},
		{1000, 999, 999},
		{1000, 1000, 1000},
		{1001, 1, 1},
		{1001, 333, 333},
		{1001, 500, 500},
		{1001, 999, 999},
		{1001, 1000, 1001},
		{1999, 1, 1},
		{2000, 1, 2},
		{2001, 999, 1998},
		{1000000, 333, 333000},
		{123456789, 1, 123456},
		{123456789, 2, 246913},
		{123456789, 333, 41111110},
		{123456789, 500, 61728394},
		{123456789, 999, 123333332},
		{123456789, 1000, 123456789},
		{9999999999, 0, 0},
		{9999999999, 1, 9999999},
		{9999999999, 333, 3329999999},
		{9999999999, 500, 4999999999},
		{9999999999, 999, 9989999999},
		{9999999999, 1000, 9999999999},
		{10000000000, 0, 0},
		{10000000000, 1, 10000000},
		{10000000000, 2, 20000000},
		{10000000000, 333, 3330000000},
		{10000000000, 500, 5000000000},
		{10000000000, 999, 9990000000},
		{10000000000, 1000, 10000000000},
	} {
		if got := plainDecay(c.tracer, c.rate); got != c.want {
			t.Errorf("the oracle takes %d of %d at the rate %d; want %d", got, c.tracer, c.rate, c.want)
		}
		for _, mass := range []int{(c.tracer + 999) / 1000, 10000000} {
			s := plainState{"0", []int{mass}, []int{c.tracer}, []int{77}}.state(t, byText)
			want := plainState{"0", []int{mass}, []int{c.tracer - c.want}, []int{77}}.state(t, byText)
			wantDecay(t, s, c.rate, want, impl.Ledger{TracerOut: c.want})
		}
	}
}

func TestDecayAll(t *testing.T) {
	byText := shapesByText()
	beds := []int{7, 0, 1000000, 3, 40, 5, 600, 1}
	numbers := func(n ...int) []int { return n }
	for _, c := range []struct {
		name         string
		text         string
		mass, tracer []int
		rate         int
		want         []int
		tracerOut    int
	}{
		{"the given example", "122", numbers(400, 0, 7), numbers(1000, 0, 21), 100, numbers(900, 0, 19), 102},
		{"the given example, and nothing decays", "122", numbers(400, 0, 7), numbers(1000, 0, 21), 0, numbers(1000, 0, 21), 0},
		{"the given example, and the least rate", "122", numbers(400, 0, 7), numbers(1000, 0, 21), 1, numbers(999, 0, 21), 1},
		{"the given example, and the rate 2", "122", numbers(400, 0, 7), numbers(1000, 0, 21), 2, numbers(998, 0, 21), 2},
		{"the given example, and a third", "122", numbers(400, 0, 7), numbers(1000, 0, 21), 333, numbers(667, 0, 15), 339},
		{"the given example, and a half", "122", numbers(400, 0, 7), numbers(1000, 0, 21), 500, numbers(500, 0, 11), 510},
		{"the given example, and the rate 999", "122", numbers(400, 0, 7), numbers(1000, 0, 21), 999, numbers(1, 0, 1), 1019},
		{"the given example, and everything decays", "122", numbers(400, 0, 7), numbers(1000, 0, 21), 1000, numbers(0, 0, 0), 1021},
		{"each leaf is rounded down, and the sum is not", "122", numbers(1, 1, 1), numbers(9, 9, 9), 100, numbers(9, 9, 9), 0},
		{"each leaf is rounded down, and one of them loses something", "122", numbers(1, 1, 1), numbers(9, 10, 9), 100, numbers(9, 9, 9), 1},
		{"halves of odd amounts in each leaf", "0|12344", numbers(1, 1, 1, 1, 1, 1), numbers(1, 3, 5, 7, 9, 999), 500, numbers(1, 2, 3, 4, 5, 500), 509},
		{"the stable amount in each leaf", "0|12344", numbers(1, 1, 1, 1, 1, 1), numbers(3, 3, 3, 3, 3, 3), 333, numbers(3, 3, 3, 3, 3, 3), 0},
		{"one unit more in each leaf", "0|12344", numbers(1, 1, 1, 1, 1, 1), numbers(4, 4, 4, 4, 4, 4), 333, numbers(3, 3, 3, 3, 3, 3), 6},
		{"amounts around the stable one", "0|12344", numbers(1, 1, 1, 1, 1, 1), numbers(3, 4, 2, 0, 5, 1), 333, numbers(3, 3, 2, 0, 4, 1), 2},
		{"amounts around the stable one of the least rate", "122|11", numbers(1, 1, 2, 2, 2), numbers(999, 1000, 1001, 1999, 2000), 1, numbers(999, 999, 1000, 1998, 1998), 5},
		{"amounts around the stable one of the rate 999", "122|11", numbers(1, 1, 1, 1, 2), numbers(0, 1, 2, 3, 2000), 999, numbers(0, 1, 1, 1, 2), 2001},
		{"the share does not count, but the tracer", "11|0", numbers(1, 1000, 9998999), numbers(1000, 1000, 1000), 333, numbers(667, 667, 667), 999},
		{"leaves without tracer", "122|11", numbers(1, 0, 3, 0, 9999996), numbers(0, 0, 0, 0, 0), 1000, numbers(0, 0, 0, 0, 0), 0},
		{"leaves without tracer, and one with a unit", "122|11", numbers(1, 0, 3, 0, 9999996), numbers(0, 0, 1, 0, 0), 1000, numbers(0, 0, 0, 0, 0), 1},
		{"a first leaf that is dry", "0|0|0", numbers(0, 5, 5), numbers(0, 5000, 4999), 500, numbers(0, 2500, 2500), 4999},
		{"a middle leaf that is dry", "0|0|0", numbers(5, 0, 5), numbers(5000, 0, 4999), 500, numbers(2500, 0, 2500), 4999},
		{"a last leaf that is dry", "0|0|0", numbers(5, 5, 0), numbers(5000, 4999, 0), 500, numbers(2500, 2500, 0), 4999},
		{"a channel that is dry", "0|0|0", numbers(0, 0, 0), numbers(0, 0, 0), 1000, numbers(0, 0, 0), 0},
		{"the greatest tracer that the masses allow", "122|11", numbers(1, 2, 3, 65535, 65536), numbers(1000, 2000, 3000, 65535000, 65536000), 333, numbers(667, 1334, 2001, 43711845, 43712512), 43648641},
		{"a full channel", "0|0", numbers(9999999, 1), numbers(9999999000, 1000), 999, numbers(9999999, 1), 9990000000},
		{"a full channel, and everything decays", "0|0", numbers(9999999, 1), numbers(9999999000, 1000), 1000, numbers(0, 0), 10000000000},
		{"sixteen leaves of the deepest level", "4444444444444444", slices.Repeat(numbers(0, 8), 8), slices.Repeat(numbers(0, 9), 8), 500, slices.Repeat(numbers(0, 5), 8), 32},
		{"eight roots", "0|0|0|0|0|0|0|0", numbers(1, 1, 1, 1, 1, 1, 1, 1), numbers(1, 2, 3, 4, 5, 6, 7, 8), 500, numbers(1, 1, 2, 2, 3, 3, 4, 4), 16},
	} {
		t.Run(c.name, func(t *testing.T) {
			m := meshWithText(t, c.text, byText)
			s := impl.State{Mesh: m, Mass: c.mass, Tracer: c.tracer, Bed: beds[:m.Roots]}
			want := impl.State{Mesh: m, Mass: c.mass, Tracer: c.want, Bed: beds[:m.Roots]}
			wantDecay(t, s, c.rate, want, impl.Ledger{TracerOut: c.tracerOut})
		})
	}
}

// TestEachRate has each rate, and those around their range.
func TestEachRate(t *testing.T) {
	byText := shapesByText()
	p := plainState{"0|12344", []int{9000, 5000, 1234, 1249, 3, 0}, []int{9000000, 1, 777777, 999, 2999, 0}, []int{5, 1000000}}
	s := p.state(t, byText)
	for rate := -300; rate <= 1300; rate++ {
		if rate < 0 || rate > 1000 {
			wantNoDecay(t, s, rate)
			continue
		}
		wantPlainDecay(t, p, rate, byText)
	}
}

// TestEachSmallAmount has leaves with each small tracer, and asks how often it can be reduced.
func TestEachSmallAmount(t *testing.T) {
	byText := shapesByText()
	for _, rate := range decayRates() {
		for tracer := range 2101 {
			p := plainState{"0|12344", []int{3, 4, 3, 0, 3, 3}, []int{tracer, tracer + 1, 1, 0, max(tracer-1, 0), 999}, []int{5, 0}}
			wantPlainDecay(t, p, rate, byText)
			if tracer == 0 {
				continue
			}
			want := -1
			if plainDecay(tracer, rate) > 0 {
				want = 1
			}
			wantTicks(t, tracer, rate, tracer-1, want)
		}
	}
}

// TestDecayOfKnownStates compares DecayAll with its oracle, on states of all shapes.
func TestDecayOfKnownStates(t *testing.T) {
	byText := shapesByText()
	rates := decayRates()
	decayed := 0
	compare := func(p plainState, rate int) {
		if wantPlainDecay(t, p, rate, byText) > 0 {
			decayed++
		}
	}
	for n, p := range fluxPlains() {
		for _, rate := range []int{rates[n%len(rates)], rates[(n/len(rates))%len(rates)], n * 31 % 1001} {
			compare(p, rate)
		}
	}
	for _, s := range baseStates(t) {
		for _, rate := range rates {
			compare(plainState{impl.FormatMesh(s.Mesh), s.Mass, s.Tracer, s.Bed}, rate)
		}
	}
	if decayed < 1000 {
		t.Errorf("in %d states something decayed", decayed)
	}
}

// TestDecayOfSingleLeaves asks for each leaf by itself, with nothing in the others.
func TestDecayOfSingleLeaves(t *testing.T) {
	byText := shapesByText()
	rates := decayRates()
	for n, p := range balancedPlains() {
		if n%3 > 0 {
			continue
		}
		s := p.state(t, byText)
		rate := rates[n%len(rates)]
		after, all := impl.DecayAll(s, rate)
		sum := impl.Ledger{}
		for i := range p.mass {
			alone := cleanPlain(p.text, make([]int, len(p.mass)), p.bed)
			alone.mass[i], alone.tracer[i] = p.mass[i], p.tracer[i]
			rest, l := impl.DecayAll(alone.state(t, byText), rate)
			if rest.Mass[i] != after.Mass[i] || rest.Tracer[i] != after.Tracer[i] {
				t.Fatalf("DecayAll(%v, %d) is %v; the leaf %d alone is left with %d in %d", s, rate, after, i, rest.Tracer[i], rest.Mass[i])
			}
			sum = impl.LedgerAdd(sum, l)
		}
		if sum != all {
			t.Fatalf("the ledger of DecayAll(%v, %d) is %+v, and %+v for the leaves one by one", s, rate, all, sum)
		}
	}
}

// TestDecayFromTheOtherSide compares a channel with the same one seen from the other side.
func TestDecayFromTheOtherSide(t *testing.T) {
	byText := shapesByText()
	rates := decayRates()
	for n, p := range balancedPlains() {
		rate := rates[n%len(rates)]
		s := p.state(t, byText)
		got, l := impl.DecayAll(s, rate)
		other, otherLedger := impl.DecayAll(mirroredPlain(p).state(t, byText), rate)
		if l != otherLedger || !slices.Equal(fromTheEnd(got.Mass), other.Mass) || !slices.Equal(fromTheEnd(got.Tracer), other.Tracer) {
			t.Fatalf("DecayAll(%v, %d) is %v, %+v, and %v, %+v from the other side", s, rate, got, l, other, otherLedger)
		}
	}
}

// TestDecayDoesNotDependOnMassMeshAndBed puts the same tracers into other states, and expects the same reductions.
func TestDecayDoesNotDependOnMassMeshAndBed(t *testing.T) {
	byText := shapesByText()
	tracers := []int{999, 1000, 0, 12345, 1, 77777}
	for _, rate := range decayRates() {
		var first []int
		for _, text := range []string{"0|0|0|0|0|0", "0|12344", "44321|0", "223333", "11|11|11"} {
			for _, mass := range []int{78, 1000, 1666666} {
				p := cleanPlain(text, slices.Repeat([]int{mass}, 6), nil)
				p.tracer = tracers
				for n := range leafRoots(text) {
					p.bed = append(p.bed, (n*7919+mass)%1000001)
				}
				got, _ := impl.DecayAll(p.state(t, byText), rate)
				if first == nil {
					first = got.Tracer
				}
				if !slices.Equal(got.Tracer, first) {
					t.Fatalf("at the rate %d, %v is left of %v in %v, and %v in another state", rate, got.Tracer, tracers, p, first)
				}
			}
		}
	}
}

// leafRoots returns the number of roots of a text.
func leafRoots(text string) int {
	roots := 1
	for _, c := range text {
		if c == '|' {
			roots++
		}
	}
	return roots
}

// TestSharesAfterDecay checks that decay makes no share greater, and that a greater rate leaves no greater share.
func TestSharesAfterDecay(t *testing.T) {
	byText := shapesByText()
	for _, p := range append(richPlains(), balancedPlains()...) {
		s := p.state(t, byText)
		last := s
		for _, rate := range decayRates() {
			after, _ := impl.DecayAll(s, rate)
			for i := range p.mass {
				if after.Tracer[i] > last.Tracer[i] || impl.ShareAt(after, i) > impl.ShareAt(last, i) {
					t.Fatalf("DecayAll(%v, %d) is %v, and %v at a smaller rate", s, rate, after, last)
				}
			}
			if impl.GreatestShare(after) > impl.GreatestShare(last) || impl.LeastShare(after) > impl.LeastShare(last) {
				t.Fatalf("the shares of %v are greater than those of %v", after, last)
			}
			last = after
		}
	}
}

// TestDecayDoesNotMoveTheWater compares the masses of a channel in which the tracer decays with those in which it does not.
func TestDecayDoesNotMoveTheWater(t *testing.T) {
	byText := shapesByText()
	for _, p := range richPlains() {
		clear := p.state(t, byText)
		faded := clear
		for _, rate := range decayRates() {
			faded, _ = impl.DecayAll(impl.MacroStep(faded), rate)
			clear = impl.MacroStep(clear)
			if !slices.Equal(faded.Mass, clear.Mass) || !slices.Equal(impl.AllFluxes(faded), impl.AllFluxes(clear)) {
				t.Fatalf("%v and %v have other masses or fluxes", faded, clear)
			}
		}
	}
}

func TestDecayTicks(t *testing.T) {
	for _, c := range []struct{ tracer, rate, limit, want int }{
		{1000, 500, 250, 2},
		{1000, 500, 249, 3},
		{1000, 500, 251, 2},
		{5, 100, 4, -1},
		{0, 0, 0, 0},
		{0, 1, 0, 0},
		{0, 1000, 0, 0},
		{0, 0, 5, 0},
		{7, 0, 7, 0},
		{7, 0, 8, 0},
		{7, 0, 6, -1},
		{1, 0, 0, -1},
		{7, 500, 7, 0},
		{7, 500, 8, 0},
		{7, 500, 6, 1},
		{7, 500, 4, 1},
		{7, 500, 3, 2},
		{7, 500, 2, 2},
		{7, 500, 1, 3},
		{7, 500, 0, -1},
		{7, 1000, 7, 0},
		{7, 1000, 6, 1},
		{7, 1000, 0, 1},
		{1, 1000, 0, 1},
		{1, 999, 0, -1},
		{1, 999, 1, 0},
		{2, 999, 1, 1},
		{2, 999, 0, -1},
		{1000, 999, 1, 1},
		{1001, 999, 1, 2},
		{1001, 999, 2, 1},
		{999999, 999, 1, 2},
		{1000000, 999, 999, 2},
		{1000000, 999, 1000, 1},
		{2000, 1, 999, 1000},
		{2000, 1, 1998, 1},
		{2000, 1, 1999, 1},
		{1999, 1, 999, 1000},
		{1000, 1, 999, 1},
		{1000, 1, 998, -1},
		{999, 1, 999, 0},
		{999, 1, 998, -1},
		{1000, 2, 499, 500},
		{1000, 2, 498, -1},
		{10, 100, 9, 1},
		{1000, 100, 9, 50},
		{1000, 100, 10, 49},
		{1000, 100, 8, -1},
		{4, 333, 3, 1},
		{7, 333, 3, 3},
		{7, 333, 4, 2},
		{3, 333, 2, -1},
		{100, 333, 3, 11},
		{63, 500, 1, 6},
		{64, 500, 1, 6},
		{65, 500, 1, 7},
		{1023, 500, 1, 10},
		{10000000000, 0, 10000000000, 0},
		{10000000000, 0, 9999999999, -1},
		{10000000000, 0, 0, -1},
		{10000000000, 1, 0, -1},
		{10000000000, 1, 998, -1},
		{10000000000, 1, 999, 16687},
		{10000000000, 1, 1000, 16686},
		{10000000000, 1, 1998, 15688},
		{10000000000, 1, 5000000000, 693},
		{10000000000, 1, 9989999999, 2},
		{10000000000, 1, 9990000000, 1},
		{10000000000, 1, 9999999999, 1},
		{10000000000, 1, 10000000000, 0},
		{10000000000, 2, 498, -1},
		{10000000000, 2, 499, 8686},
		{10000000000, 333, 2, -1},
		{10000000000, 333, 3, 56},
		{10000000000, 500, 0, -1},
		{10000000000, 500, 1, 34},
		{10000000000, 500, 2, 33},
		{10000000000, 998, 1, 4},
		{10000000000, 999, 0, -1},
		{10000000000, 999, 1, 4},
		{10000000000, 999, 2, 4},
		{10000000000, 1000, 0, 1},
		{10000000000, 1000, 9999999999, 1},
		{9999999999, 1000, 0, 1},
		{9999999999, 999, 0, -1},
		{0, 1000, 10000000000, 0},
		{9999999999, 1, 10000000000, 0},
	} {
		wantTicks(t, c.tracer, c.rate, c.limit, c.want)
	}
}

// TestDecayTicksOfAllSmallAmounts compares DecayTicks with its oracle, for each limit up to each amount.
func TestDecayTicksOfAllSmallAmounts(t *testing.T) {
	for _, rate := range decayRates() {
		for tracer := range 60 {
			for limit := range tracer + 3 {
				wantTicks(t, tracer, rate, limit, plainTicks(tracer, rate, limit))
			}
		}
	}
	for rate := range 1001 {
		for _, c := range []struct{ tracer, limit int }{{greatestTracer, 1000}, {greatestTracer, 9}, {greatestTracer, 2}, {123456, 4321}, {1001, 1000}, {17, 1}} {
			wantTicks(t, c.tracer, rate, c.limit, plainTicks(c.tracer, rate, c.limit))
		}
	}
}

// TestDecayTicksIsRepeatedDecayAll lets the tracer of one leaf decay, and asks at each amount how long it took.
func TestDecayTicksIsRepeatedDecayAll(t *testing.T) {
	byText := shapesByText()
	for _, rate := range decayRates() {
		for _, tracer := range []int{0, 1, 2, 3, 999, 1000, 1001, 77777, greatestTracer - 1, greatestTracer} {
			first := onePlain(tracer).state(t, byText)
			s, ticks := first, 0
			for {
				now := s.Tracer[0]
				if ticks < 20 || ticks%1000 == 0 || now < 1100 && now%50 == 0 {
					wantTicks(t, tracer, rate, now, ticks)
					wantTicks(t, now, rate, now, 0)
				}
				next, l := impl.DecayAll(s, rate)
				if next.Tracer[0] != now-l.TracerOut {
					t.Fatalf("DecayAll(%v, %d) = %v, %+v", s, rate, next, l)
				}
				if l.TracerOut == 0 {
					break
				}
				if ticks < 20 || ticks%1000 == 0 {
					wantTicks(t, tracer, rate, now-1, ticks+1)
					wantTicks(t, now, rate, now-1, 1)
				}
				s, ticks = next, ticks+1
			}
			end := s.Tracer[0]
			wantTicks(t, tracer, rate, end, ticks)
			if end > 0 {
				wantTicks(t, tracer, rate, end-1, -1)
				wantTicks(t, tracer, rate, 0, -1)
			}
			if rate > 0 && end != min(tracer, impl.StableAmount(rate)) {
				t.Fatalf("the decay of %d at the rate %d ends at %d", tracer, rate, end)
			}
		}
	}
}

// TestDecayTicksOneAfterTheOther lets a tracer decay to one limit, and from there to another one.
func TestDecayTicksOneAfterTheOther(t *testing.T) {
	for _, rate := range []int{1, 2, 7, 100, 333, 500, 999, 1000} {
		for _, tracer := range []int{5000, 123456, greatestTracer} {
			now, ticks := tracer, 0
			for _, limit := range []int{tracer, tracer - 1, tracer / 2, max(tracer/10, 1500), 1500, 1000, 999} {
				step := impl.DecayTicks(now, rate, limit)
				if step < 0 {
					t.Fatalf("DecayTicks(%d, %d, %d) = %d", now, rate, limit, step)
				}
				for range step {
					now -= plainDecay(now, rate)
				}
				ticks += step
				wantTicks(t, tracer, rate, limit, ticks)
				if now > limit || step > 0 && impl.DecayTicks(tracer, rate, now) != ticks {
					t.Fatalf("%d is left of %d after %d reductions at the rate %d; the limit is %d", now, tracer, ticks, rate, limit)
				}
			}
		}
	}
}

func TestStableAmount(t *testing.T) {
	for _, c := range []struct{ rate, want int }{
		{0, -1}, {1, 999}, {2, 499}, {3, 333}, {4, 249}, {7, 142}, {9, 111}, {10, 99}, {31, 32}, {32, 31}, {99, 10}, {100, 9}, {111, 9}, {112, 8},
		{249, 4}, {250, 3}, {332, 3}, {333, 3}, {334, 2}, {499, 2}, {500, 1}, {501, 1}, {666, 1}, {998, 1}, {999, 1}, {1000, 0}, {-1, -1}, {1001, -1},
	} {
		if got := impl.StableAmount(c.rate); got != c.want {
			t.Errorf("StableAmount(%d) = %d; want %d", c.rate, got, c.want)
		}
	}
}

// TestStableAmountOfEachRate compares StableAmount with what DecayTicks and DecayAll say of the amounts around it.
func TestStableAmountOfEachRate(t *testing.T) {
	byText := shapesByText()
	for rate := 1; rate <= 1000; rate++ {
		stable := impl.StableAmount(rate)
		if stable != plainStable(rate) || stable*rate >= 1000 || (stable+1)*rate < 1000 {
			t.Fatalf("StableAmount(%d) = %d; want %d", rate, stable, plainStable(rate))
		}
		for _, amount := range []int{0, stable - 1, stable} {
			if amount < 0 {
				continue
			}
			s := onePlain(amount).state(t, byText)
			wantDecay(t, s, rate, s, impl.Ledger{})
			wantTicks(t, amount, rate, amount, 0)
			if amount > 0 {
				wantTicks(t, amount, rate, amount-1, -1)
			}
		}
		more := onePlain(stable + 1)
		less := plainState{more.text, more.mass, []int{stable}, more.bed}
		wantDecay(t, more.state(t, byText), rate, less.state(t, byText), impl.Ledger{TracerOut: 1})
		wantTicks(t, stable+1, rate, stable, 1)
		if stable > 0 {
			wantTicks(t, stable+1, rate, stable-1, -1)
		}
	}
}

// TestDecayEndsAtTheStableAmount states the second half of the promise: every leaf with more tracer than that is left
// with the stable amount, every other one is left as it is, and the ledgers add up to the rest.
func TestDecayEndsAtTheStableAmount(t *testing.T) {
	byText := shapesByText()
	for rate := 1; rate <= 1000; rate++ {
		stable := impl.StableAmount(rate)
		p := plainState{"0|12344", []int{10, 900000, 1, 0, 1, 10 + rate}, []int{10000, 899999999, min(1000, stable+1), 0, stable, 777 + rate}, []int{5, 0}}
		first := p.state(t, byText)
		wantEnd(t, first, rate, 1+slices.Max([]int{0, impl.DecayTicks(p.tracer[0], rate, stable), impl.DecayTicks(p.tracer[1], rate, stable), impl.DecayTicks(p.tracer[5], rate, stable)}))
	}
	for n, p := range balancedPlains() {
		if n%7 > 0 {
			continue
		}
		rate := 1 + n*37%1000
		longest := 0
		for _, tracer := range p.tracer {
			longest = max(longest, impl.DecayTicks(tracer, rate, impl.StableAmount(rate)))
		}
		wantEnd(t, p.state(t, byText), rate, 1+longest)
	}
}

// wantEnd lets the tracer decay so often, and checks that the last decay, and no other one, takes nothing.
func wantEnd(t *testing.T, first impl.State, rate int, ticks int) {
	t.Helper()
	s, sum := first, impl.Ledger{}
	for tick := range ticks {
		next, l := impl.DecayAll(s, rate)
		if l.MassIn != 0 || l.MassOut != 0 || l.TracerIn != 0 || (l.TracerOut == 0) != (tick == ticks-1) {
			t.Fatalf("the decay %d of %d at the rate %d has the ledger %+v", tick, ticks, rate, l)
		}
		s, sum = next, impl.LedgerAdd(sum, l)
	}
	wantExplained(t, first, s, sum)
	for i, tracer := range first.Tracer {
		if s.Tracer[i] != min(tracer, impl.StableAmount(rate)) {
			t.Fatalf("at the rate %d, %v ends at %v", rate, first, s)
		}
	}
}

// TestDecayIsBooked states the first half of the promise, over many decays in a row, with rain, losses, borders, steps
// and changes of the mesh between them.
func TestDecayIsBooked(t *testing.T) {
	byText := shapesByText()
	borders, amounts, rates := someBorders(), sourceAmounts(), decayRates()
	plains := append(richPlains(), filledPlain("0", 6), filledPlain("11", 4), filledPlain("12344|3321|0|11|2233443", 3), filledPlain("4444444444444444|33222|11", 5))
	for n, p := range plains {
		first := p.state(t, byText)
		last, sum, decayed := first, impl.Ledger{}, 0
		book := func(next impl.State, l impl.Ledger) {
			wantExplained(t, last, next, l)
			sum = impl.LedgerAdd(sum, l)
			wantExplained(t, first, next, sum)
			last = next
		}
		for step := range 150 {
			rate := rates[(3*step+n)%len(rates)]
			before := last
			faded, l := impl.DecayAll(last, rate)
			book(faded, l)
			decayed += l.TracerOut
			if l != (impl.Ledger{TracerOut: impl.TotalTracer(before) - impl.TotalTracer(last)}) || impl.TotalMass(last) != impl.TotalMass(before) {
				t.Fatalf("the ledger of the decay of %v at the rate %d is %+v", before, rate, l)
			}
			book(impl.ApplyBorder(last, borders[(5*step+n)%len(borders)]))
			book(impl.RainOn(last, amounts[(5*step+n)%len(amounts)]))
			book(impl.Soak(last, amounts[(7*step+2*n)%len(amounts)]))
			book(impl.MacroStep(last), impl.Ledger{})
			if finer, ok := impl.BalanceRefine(last, step%len(last.Mass)); ok && step%4 == 0 {
				book(finer, impl.Ledger{})
			} else if coarser, ok := impl.CoarsenState(last, step%len(last.Mass)); ok {
				book(coarser, impl.Ledger{})
			}
		}
		if decayed == 0 || sum.MassIn == 0 || sum.MassOut == 0 || sum.TracerIn == 0 || sum.TracerOut <= decayed {
			t.Errorf("%d decayed of %v, and the ledger is %+v", decayed, p, sum)
		}
	}
}

// TestDecayAtTheGreatestTracer compares the greatest products with those of exact arithmetic.
func TestDecayAtTheGreatestTracer(t *testing.T) {
	byText := shapesByText()
	for rate := range 1001 {
		for _, tracer := range []int{greatestTracer, greatestTracer - 1, greatestTracer - 999, greatestTracer/2 + 1} {
			product := new(big.Int).Mul(big.NewInt(int64(tracer)), big.NewInt(int64(rate)))
			lost := bigFloor(product, big.NewInt(1000))
			p := onePlain(tracer)
			after := plainState{p.text, p.mass, []int{tracer - lost}, p.bed}
			wantDecay(t, p.state(t, byText), rate, after.state(t, byText), impl.Ledger{TracerOut: lost})
			if lost > 0 {
				wantTicks(t, tracer, rate, tracer-lost, 1)
			}
			if lost > 1 {
				wantTicks(t, tracer, rate, tracer-1, 1)
			}
		}
	}
}

func TestRatesOutOfRange(t *testing.T) {
	byText := shapesByText()
	states := append(baseStates(t), impl.State{})
	for _, p := range richPlains() {
		states = append(states, p.state(t, byText))
	}
	for _, rate := range ratesOutOfRange() {
		for _, s := range states {
			wantNoDecay(t, s, rate)
		}
		for _, tracer := range []int{0, 1, 7, 1000, 5000, greatestTracer} {
			for _, limit := range []int{0, 7, 1000, greatestTracer} {
				wantTicks(t, tracer, rate, limit, -1)
			}
		}
	}
	for _, rate := range append(ratesOutOfRange(), 0) {
		if got := impl.StableAmount(rate); got != -1 {
			t.Errorf("StableAmount(%d) = %d", rate, got)
		}
	}
}

// TestTracersOutOfRange has tracers and limits that are refused, also where the tracer is at most the limit.
func TestTracersOutOfRange(t *testing.T) {
	for _, n := range tracersOutOfRange() {
		for _, rate := range append(decayRates(), -1, 1001) {
			for _, other := range []int{0, 1, 7, 1000, greatestTracer} {
				wantTicks(t, n, rate, other, -1)
				wantTicks(t, other, rate, n, -1)
			}
			wantTicks(t, n, rate, n, -1)
			for _, more := range tracersOutOfRange() {
				wantTicks(t, n, rate, more, -1)
			}
		}
	}
}

func TestDecayOfInvalidStates(t *testing.T) {
	rates := decayRates()
	count := 0
	for s := range invalidStates(t) {
		count++
		wantNoDecay(t, s, rates[count%len(rates)])
		wantNoDecay(t, s, 1000)
	}
	for _, s := range almostValidStates(t) {
		for _, rate := range append(rates, ratesOutOfRange()...) {
			wantNoDecay(t, s, rate)
		}
	}
}

// TestDecayOfRichStatesThatAreNotValid has states of which one list is spoilt, none of whose leaves are empty.
func TestDecayOfRichStatesThatAreNotValid(t *testing.T) {
	byText := shapesByText()
	for _, p := range richPlains() {
		s := p.state(t, byText)
		for spoilt := range spoiltStates(s) {
			wantNoDecay(t, spoilt, 500)
		}
		for i, mass := range s.Mass {
			for _, c := range []blend{{1000*mass + 1, mass}, {-1, mass}, {0, -1}, {1, 0}, {1, 10000001 - impl.TotalMass(s) + mass}} {
				almost := copyOfState(s)
				almost.Mass[i], almost.Tracer[i] = c.mass, c.tracer
				wantNoDecay(t, almost, 500)
			}
		}
	}
}

// TestStatesThatDecayWouldMakeValid has states with too much tracer, of which a decay would leave less.
func TestStatesThatDecayWouldMakeValid(t *testing.T) {
	byText := shapesByText()
	for _, p := range []plainState{
		{"0", []int{2}, []int{2001}, []int{0}},
		{"0", []int{0}, []int{1}, []int{0}},
		{"0|0", []int{2, 1}, []int{0, 1001}, []int{0, 0}},
		{"0|0", []int{0, 1}, []int{2, 10}, []int{0, 0}},
		{"0", []int{10000000}, []int{10000000001}, []int{0}},
	} {
		for _, rate := range []int{0, 1, 500, 999, 1000} {
			wantNoDecay(t, p.state(t, byText), rate)
		}
	}
}

// TestDecayReturnsNewMemory looks at the states after decays of something and of nothing, and after those that are refused.
func TestDecayReturnsNewMemory(t *testing.T) {
	byText := shapesByText()
	states := slices.Concat(baseStates(t), unevenStates(t), []impl.State{{}, {Mass: []int{1}, Tracer: []int{2}, Bed: []int{3}}})
	for _, p := range richPlains() {
		states = append(states, p.state(t, byText))
	}
	for _, s := range states {
		for _, rate := range append(decayRates(), -1, 1001) {
			_, want := impl.DecayAll(s, rate)
			wantOwnMemory(t, "DecayAll", s, func(s impl.State) (impl.State, bool) {
				got, l := impl.DecayAll(s, rate)
				return got, l == want
			})
			got, _ := impl.DecayAll(withSpare(s), rate)
			wantSeparateLists(t, got)
		}
	}
}

// TestDecayOfListsOfOneArray has a state whose lists lie in one array, one behind the other.
func TestDecayOfListsOfOneArray(t *testing.T) {
	m, _ := impl.ParseMesh("11")
	numbers := []int{500, 10, 1000, 51, 7}
	s := impl.State{Mesh: m, Mass: numbers[0:2], Tracer: numbers[2:4], Bed: numbers[4:5]}
	want := impl.State{Mesh: m, Mass: []int{500, 10}, Tracer: []int{500, 26}, Bed: []int{7}}
	wantDecay(t, s, 500, want, impl.Ledger{TracerOut: 525})
	if !slices.Equal(numbers, []int{500, 10, 1000, 51, 7}) {
		t.Errorf("the array is %v", numbers)
	}
}
