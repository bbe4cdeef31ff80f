package tests

import (
	"iter"
	"math"
	"math/big"
	"slices"
	"testing"

	"loop.example/g00982/impl"
)

// baseStates returns states that are known to be valid: of one leaf and of many, of the coarsest and of the finest level,
// empty and full, and with beds that differ.
func baseStates(t *testing.T) []impl.State {
	t.Helper()
	byText := shapesByText()
	cases := []struct {
		text              string
		mass, tracer, bed []int
	}{
		{"0", []int{0}, []int{0}, []int{0}},
		{"0", []int{10000000}, []int{10000000000}, []int{1000000}},
		{"11", []int{7, 0}, []int{7000, 0}, []int{12}},
		{"122", []int{49, 24, 25}, []int{0, 13, 25000}, []int{10}},
		{"0|0", []int{5, 9999995}, []int{1, 2}, []int{0, 1000000}},
		{"122|11", []int{49, 24, 24, 0, 7}, []int{3, 0, 24000, 0, 6999}, []int{10, 200}},
		{"0|11|221", []int{1, 0, 0, 40, 41, 42}, []int{1000, 0, 0, 5, 6, 7}, []int{3, 2, 1}},
		{"11|0|122|221|11|11|11|221", slices.Repeat([]int{11, 12, 13}, 6), slices.Repeat([]int{100, 0, 13000}, 6), []int{1, 0, 1000000, 7, 7, 8, 0, 5}},
		{"0|0|0|0|0|0|0|0", []int{1, 2, 3, 4, 5, 6, 7, 8}, []int{8, 7, 6, 5, 4, 3, 2, 1}, []int{0, 1, 2, 3, 4, 5, 6, 7}},
		{"4444444444444444", []int{1, 0, 2, 0, 3, 0, 4, 0, 5, 0, 6, 0, 7, 0, 8, 9}, []int{1000, 0, 1, 0, 2, 0, 3, 0, 4, 0, 5, 0, 6, 0, 7, 9000}, []int{77}},
		{"4444444444444444|33222|11", slices.Repeat([]int{3}, 23), slices.Repeat([]int{2999}, 23), []int{0, 50, 60}},
	}
	var states []impl.State
	for _, c := range cases {
		states = append(states, impl.State{Mesh: meshWithText(t, c.text, byText), Mass: c.mass, Tracer: c.tracer, Bed: c.bed})
	}
	return states
}

func sameAsState(a impl.State, b impl.State) bool {
	return sameAsMesh(a.Mesh, b.Mesh) && slices.Equal(a.Mass, b.Mass) && slices.Equal(a.Tracer, b.Tracer) && slices.Equal(a.Bed, b.Bed)
}

func copyOfState(s impl.State) impl.State {
	leaves := slices.Clone(s.Mesh.Leaves)
	return impl.State{Mesh: impl.Mesh{Roots: s.Mesh.Roots, Leaves: leaves}, Mass: slices.Clone(s.Mass), Tracer: slices.Clone(s.Tracer), Bed: slices.Clone(s.Bed)}
}

// withSpare returns a copy of a state whose lists have marked spare capacity behind them.
func withSpare(s impl.State) impl.State {
	spare := copyOfState(s)
	spare.Mesh.Leaves = slices.Concat(s.Mesh.Leaves, slices.Repeat([]impl.Id{{Root: 77}}, 40))[:len(s.Mesh.Leaves)]
	for _, list := range []*[]int{&spare.Mass, &spare.Tracer, &spare.Bed} {
		*list = slices.Concat(*list, slices.Repeat([]int{-77}, 40))[:len(*list)]
	}
	return spare
}

// withAll returns a state whose lists also hold what is in their spare capacity.
func withAll(s impl.State) impl.State {
	all := s
	all.Mesh.Leaves = s.Mesh.Leaves[:cap(s.Mesh.Leaves)]
	for _, list := range []*[]int{&all.Mass, &all.Tracer, &all.Bed} {
		*list = (*list)[:cap(*list)]
	}
	return all
}

// overwrite changes each number of each list of a state, with what is in its spare capacity.
func overwrite(s impl.State) {
	all := withAll(s)
	for i := range all.Mesh.Leaves {
		all.Mesh.Leaves[i] = impl.Id{Root: 55, Level: 55, Index: 55}
	}
	for _, list := range [][]int{all.Mass, all.Tracer, all.Bed} {
		for i := range list {
			list[i] = -55
		}
	}
}

// wantOwnMemory checks that a function of a state changes nothing of it, with the spare capacity behind it, that its
// result shares no memory with the argument, and that the second call returns what the first one has returned.
func wantOwnMemory(t *testing.T, name string, s impl.State, call func(s impl.State) (impl.State, bool)) {
	t.Helper()
	given := withSpare(s)
	before := copyOfState(withAll(given))
	got, ok := call(given)
	want := copyOfState(got)
	overwrite(got)
	if !sameAsState(given, s) || !sameAsState(withAll(given), before) {
		t.Fatalf("%s, %v: the argument shares memory with the result, or is changed: %v; want %v", name, ok, withAll(given), before)
	}
	again, still := call(given)
	if still != ok || !sameAsState(again, want) {
		t.Fatalf("%s, %v, gives %v, %v after a change of an earlier result; want %v", name, ok, again, still, want)
	}
	overwrite(given)
	if !sameAsState(again, want) {
		t.Fatalf("%s, %v, gives a state that changes with the argument: %v; want %v", name, ok, again, want)
	}
}

// spoiltNumbers produces a list with one number removed, added or replaced by one that is too small or too great for
// any list of a state, and the list without numbers.
func spoiltNumbers(list []int) iter.Seq[[]int] {
	return func(yield func([]int) bool) {
		more := yield(nil) && yield([]int{}) && yield(slices.Concat(list, list)) && yield(append(slices.Clone(list), 0)) && yield(list[1:]) && yield(list[:len(list)-1])
		for i := range list {
			for _, n := range []int{-1, -2, -1000, math.MinInt, math.MinInt + 1, math.MaxInt, math.MaxInt - 1, math.MaxInt / 2, 1 << 62, 1 << 61, 1<<63 - 1000, 20000000000} {
				spoilt := slices.Clone(list)
				spoilt[i] = n
				more = more && yield(spoilt)
			}
		}
	}
}

// spoiltStates produces states that are not valid, each of which differs from a valid one in one list.
func spoiltStates(s impl.State) iter.Seq[impl.State] {
	return func(yield func(impl.State) bool) {
		more := true
		count := 0
		for m := range spoiltMeshes(s.Mesh) {
			// There are very many meshes that are not valid.
			if count++; count%17 == 0 {
				more = more && yield(impl.State{Mesh: m, Mass: s.Mass, Tracer: s.Tracer, Bed: s.Bed})
			}
		}
		for list := range spoiltNumbers(s.Mass) {
			more = more && yield(impl.State{Mesh: s.Mesh, Mass: list, Tracer: s.Tracer, Bed: s.Bed})
		}
		for list := range spoiltNumbers(s.Tracer) {
			more = more && yield(impl.State{Mesh: s.Mesh, Mass: s.Mass, Tracer: list, Bed: s.Bed})
		}
		for list := range spoiltNumbers(s.Bed) {
			more = more && yield(impl.State{Mesh: s.Mesh, Mass: s.Mass, Tracer: s.Tracer, Bed: list})
		}
	}
}

// unevenStates returns states that would be valid, were their meshes balanced.
func unevenStates(t *testing.T) []impl.State {
	t.Helper()
	byText := shapesByText()
	var states []impl.State
	for _, text := range []string{"122|0", "0|221", "33222|0", "2222|12344|0", "11|4444444444444444"} {
		m := meshWithText(t, text, byText)
		count := len(m.Leaves)
		states = append(states, impl.State{Mesh: m, Mass: slices.Repeat([]int{4}, count), Tracer: slices.Repeat([]int{5}, count), Bed: make([]int, m.Roots)})
	}
	return states
}

// invalidStates produces the states of spoiltStates and unevenStates, and a few more.
func invalidStates(t *testing.T) iter.Seq[impl.State] {
	t.Helper()
	return func(yield func(impl.State) bool) {
		more := yield(impl.State{}) && yield(impl.State{Mesh: impl.Mesh{Roots: 1}, Bed: []int{0}}) && yield(impl.State{Mass: []int{1}, Tracer: []int{1}, Bed: []int{1}})
		for _, s := range unevenStates(t) {
			more = more && yield(s)
		}
		for _, s := range baseStates(t) {
			if !more {
				return
			}
			for spoilt := range spoiltStates(s) {
				more = more && yield(spoilt)
			}
		}
	}
}

// wantInvalid checks what each function says of a state that is not valid.
func wantInvalid(t *testing.T, s impl.State) {
	t.Helper()
	if impl.StateOk(s) || impl.TotalMass(s) != 0 || impl.TotalTracer(s) != 0 {
		t.Fatalf("StateOk(%v) is %v, and the totals are %d and %d", s, impl.StateOk(s), impl.TotalMass(s), impl.TotalTracer(s))
	}
	for _, i := range []int{0, 1, len(s.Mass) - 1, len(s.Mass), len(s.Tracer) - 1, len(s.Mesh.Leaves) - 1, len(s.Mesh.Leaves), -1, math.MinInt, math.MaxInt} {
		for _, mass := range []int{0, 1, -1, math.MaxInt} {
			if got, ok := impl.PutCell(s, i, mass, 0); ok || !sameAsState(got, s) {
				t.Fatalf("PutCell(%v, %d, %d, 0) = %v, %v; want the state unchanged and false", s, i, mass, got, ok)
			}
		}
	}
}

// wantTotals checks a valid state, with totals that are computed without regard to the size of an int.
func wantTotals(t *testing.T, s impl.State) {
	t.Helper()
	mass, tracer := new(big.Int), new(big.Int)
	for i := range s.Mass {
		mass.Add(mass, big.NewInt(int64(s.Mass[i])))
		tracer.Add(tracer, big.NewInt(int64(s.Tracer[i])))
	}
	if !impl.StateOk(s) || int64(impl.TotalMass(s)) != mass.Int64() || int64(impl.TotalTracer(s)) != tracer.Int64() {
		t.Fatalf("StateOk(%v) is %v, the totals are %d and %d; want %v and %v", s, impl.StateOk(s), impl.TotalMass(s), impl.TotalTracer(s), mass, tracer)
	}
}

func TestLimitsOfStates(t *testing.T) {
	got := []int{impl.MaxTotal, impl.MaxBed, impl.MaxShare}
	if want := []int{10000000, 1000000, 1000}; !slices.Equal(got, want) {
		t.Errorf("limits are %v; want %v", got, want)
	}
}

func TestValidStates(t *testing.T) {
	for _, s := range baseStates(t) {
		wantTotals(t, s)
	}
}

func TestInvalidStates(t *testing.T) {
	count := 0
	for s := range invalidStates(t) {
		count++
		wantInvalid(t, s)
	}
	if count < 1000 {
		t.Errorf("there are only %d invalid states", count)
	}
}

func TestStateOk(t *testing.T) {
	byText := shapesByText()
	cases := []struct {
		name              string
		text              string
		mass, tracer, bed []int
		want              bool
	}{
		{"the greatest share", "11", []int{3, 4}, []int{3000, 4000}, []int{0}, true},
		{"one unit more than the greatest share in the first leaf", "11", []int{3, 4}, []int{3001, 4000}, []int{0}, false},
		{"one unit more than the greatest share in the last leaf", "11", []int{3, 4}, []int{3000, 4001}, []int{0}, false},
		{"one unit more than the share of one leaf, and less in the other", "11", []int{3, 4}, []int{3001, 0}, []int{0}, false},
		{"no tracer in an empty leaf", "11", []int{0, 4}, []int{0, 4000}, []int{0}, true},
		{"tracer in an empty leaf", "11", []int{0, 4}, []int{1, 0}, []int{0}, false},
		{"tracer in an empty last leaf", "11", []int{4, 0}, []int{0, 1}, []int{0}, false},
		{"negative tracer", "11", []int{4, 4}, []int{-1, 1}, []int{0}, false},
		{"negative tracer in an empty leaf", "0", []int{0}, []int{-1}, []int{0}, false},
		{"the greatest total in one leaf", "0", []int{10000000}, []int{0}, []int{0}, true},
		{"one unit more than the greatest total in one leaf", "0", []int{10000001}, []int{0}, []int{0}, false},
		{"the greatest total in two leaves", "11", []int{4000000, 6000000}, []int{0, 0}, []int{0}, true},
		{"one unit more in the first of two leaves", "11", []int{4000001, 6000000}, []int{0, 0}, []int{0}, false},
		{"one unit more in the last of two leaves", "11", []int{4000000, 6000001}, []int{0, 0}, []int{0}, false},
		{"one unit more, in another root", "0|0", []int{10000000, 1}, []int{0, 0}, []int{0, 0}, false},
		{"the greatest total before an empty leaf", "0|0", []int{10000000, 0}, []int{0, 0}, []int{0, 0}, true},
		{"a mass too great, and a negative one", "11", []int{10000001, -1}, []int{0, 0}, []int{0}, false},
		{"a negative mass, and one too great", "11", []int{-1, 10000001}, []int{0, 0}, []int{0}, false},
		{"the greatest total and the greatest shares", "11", []int{4000000, 6000000}, []int{4000000000, 6000000000}, []int{0}, true},
		{"a bed of 0", "0|0", []int{1, 1}, []int{0, 0}, []int{0, 0}, true},
		{"the greatest bed", "0|0", []int{1, 1}, []int{0, 0}, []int{1000000, 1000000}, true},
		{"one unit more than the greatest bed in the first root", "0|0", []int{1, 1}, []int{0, 0}, []int{1000001, 0}, false},
		{"one unit more than the greatest bed in the last root", "0|0", []int{1, 1}, []int{0, 0}, []int{0, 1000001}, false},
		{"a negative bed", "0|0", []int{1, 1}, []int{0, 0}, []int{0, -1}, false},
		{"a bed for each leaf", "11", []int{1, 1}, []int{0, 0}, []int{0, 0}, false},
		{"a mass for each root", "11|0", []int{1, 1}, []int{0, 0, 0}, []int{0, 0}, false},
		{"a tracer for each root", "11|0", []int{1, 1, 1}, []int{0, 0}, []int{0, 0}, false},
		{"one mass and one tracer too few", "11|0", []int{1, 1}, []int{0, 0}, []int{0, 0}, false},
		{"one mass and one tracer too many", "11|0", []int{1, 1, 1, 1}, []int{0, 0, 0, 0}, []int{0, 0}, false},
		{"a mesh that is not balanced", "122|0", []int{1, 1, 1, 1}, []int{0, 0, 0, 0}, []int{0, 0}, false},
		{"masses whose sum does not fit an int", "11", []int{math.MaxInt, math.MaxInt}, []int{0, 0}, []int{0}, false},
		{"masses whose sum becomes 0", "2222", []int{1 << 62, 1 << 62, 1 << 62, 1 << 62}, []int{0, 0, 0, 0}, []int{0}, false},
		{"masses whose sum becomes 1", "221", []int{math.MaxInt, math.MaxInt, 3}, []int{0, 0, 0}, []int{0}, false},
		{"a mass whose product with the greatest share becomes 0", "0", []int{1 << 61}, []int{0}, []int{0}, false},
		{"a tracer that is as great as a product that does not fit", "0", []int{1 << 60}, []int{math.MaxInt}, []int{0}, false},
		{"the greatest tracer", "0", []int{1}, []int{math.MaxInt}, []int{0}, false},
		{"the least tracer", "0", []int{1}, []int{math.MinInt}, []int{0}, false},
		{"the least bed", "0", []int{1}, []int{0}, []int{math.MinInt}, false},
		{"the greatest bed of an int", "0", []int{1}, []int{0}, []int{math.MaxInt}, false},
		{"nothing", "0", nil, nil, nil, false},
		{"no masses", "0", nil, []int{0}, []int{0}, false},
		{"no tracers", "0", []int{0}, nil, []int{0}, false},
		{"no beds", "0", []int{0}, []int{0}, nil, false},
	}
	for _, c := range cases {
		s := impl.State{Mesh: meshWithText(t, c.text, byText), Mass: c.mass, Tracer: c.tracer, Bed: c.bed}
		if got := impl.StateOk(s); got != c.want {
			t.Errorf("%s: StateOk(%v) = %v", c.name, s, got)
		} else if c.want {
			wantTotals(t, s)
		} else {
			wantInvalid(t, s)
		}
	}
}

// TestStatesWithVeryLongLists has lists that are much longer than any valid one.
func TestStatesWithVeryLongLists(t *testing.T) {
	zeros := make([]int, 1<<20)
	for _, s := range baseStates(t)[:3] {
		wantInvalid(t, impl.State{Mesh: s.Mesh, Mass: zeros, Tracer: zeros, Bed: s.Bed})
		wantInvalid(t, impl.State{Mesh: s.Mesh, Mass: s.Mass, Tracer: zeros, Bed: s.Bed})
		wantInvalid(t, impl.State{Mesh: s.Mesh, Mass: s.Mass, Tracer: s.Tracer, Bed: zeros})
	}
}

// filledMasses is the oracle of FillState: the depth of a root is halved once for each level.
func filledMasses(m impl.Mesh, bed []int, surface int) []int {
	var masses []int
	for _, leaf := range m.Leaves {
		depth := 0
		if bed[leaf.Root] <= surface {
			depth = surface - bed[leaf.Root]
		}
		for range leaf.Level {
			depth = (depth - depth%2) / 2
		}
		masses = append(masses, depth)
	}
	return masses
}

// wantFilled checks a call of FillState with a valid and balanced mesh and beds and a surface in their ranges.
func wantFilled(t *testing.T, m impl.Mesh, bed []int, surface int) bool {
	t.Helper()
	masses := filledMasses(m, bed, surface)
	total := 0
	for _, mass := range masses {
		total += mass
	}
	want := impl.State{}
	if total <= 10000000 {
		want = impl.State{Mesh: m, Mass: masses, Tracer: make([]int, len(masses)), Bed: bed}
	}
	got, ok := impl.FillState(m, bed, surface)
	if ok != (total <= 10000000) || !sameAsState(got, want) {
		t.Fatalf("FillState(%q, %v, %d) = %v, %v; want %v", impl.FormatMesh(m), bed, surface, got, ok, want)
	}
	if ok {
		wantTotals(t, got)
	}
	return ok
}

func TestFillState(t *testing.T) {
	byText := shapesByText()
	cases := []struct {
		name    string
		text    string
		bed     []int
		surface int
		want    []int // nil if the state is not valid
	}{
		{"a mesh of one leaf", "0", []int{10}, 109, []int{99}},
		{"a rounding that leaves a rest at each level", "122|11", []int{10, 9}, 109, []int{49, 24, 24, 50, 50}},
		{"a bed above the surface", "122|11", []int{10, 200}, 109, []int{49, 24, 24, 0, 0}},
		{"a bed equal to the surface", "122|11", []int{10, 109}, 109, []int{49, 24, 24, 0, 0}},
		{"a bed one unit below the surface", "122|11", []int{10, 108}, 109, []int{49, 24, 24, 0, 0}},
		{"a bed one unit below the surface in a root of one leaf", "11|0", []int{10, 108}, 109, []int{49, 49, 1}},
		{"a bed one unit above the surface in a root of one leaf", "11|0", []int{10, 110}, 109, []int{49, 49, 0}},
		{"a bed two units below the surface", "122|11", []int{10, 107}, 109, []int{49, 24, 24, 1, 1}},
		{"roots of different beds", "0|11|11|0", []int{5, 0, 3, 4}, 9, []int{4, 4, 4, 3, 3, 5}},
		{"a surface of 0", "0|11", []int{0, 0}, 0, []int{0, 0, 0}},
		{"a surface of 0 and beds above it", "0|11", []int{1, 1000000}, 0, []int{0, 0, 0}},
		{"a surface of 1", "0|11", []int{0, 0}, 1, []int{1, 0, 0}},
		{"the deepest level", "4444444444444444", []int{0}, 31, slices.Repeat([]int{1}, 16)},
		{"a rest in the deepest level", "4444444444444444", []int{1}, 16, slices.Repeat([]int{0}, 16)},
		{"all levels below the root", "12344|44321", []int{0, 1}, 101, []int{50, 25, 12, 6, 6, 6, 6, 12, 25, 50}},
		{"all levels", "0|12344", []int{0, 2}, 101, []int{101, 49, 24, 12, 6, 6}},
		{"the greatest surface", "0", []int{0}, 2000000, []int{2000000}},
		{"the greatest surface and bed", "0", []int{1000000}, 2000000, []int{1000000}},
		{"a surface above the greatest one", "0", []int{1000000}, 2000001, nil},
		{"a surface below 0", "0", []int{0}, -1, nil},
		{"a surface below 0 and a bed above it", "0", []int{1}, -1, nil},
		{"the greatest total", "0|0|0|0|0", []int{0, 0, 0, 0, 0}, 2000000, []int{2000000, 2000000, 2000000, 2000000, 2000000}},
		{"more than the greatest total", "0|0|0|0|0|0", []int{0, 0, 0, 0, 0, 1000000}, 2000000, nil},
		{"the greatest total in eight roots", "0|0|0|0|0|0|0|0", make([]int, 8), 1250000, slices.Repeat([]int{1250000}, 8)},
		{"eight units more in eight roots", "0|0|0|0|0|0|0|0", make([]int, 8), 1250001, nil},
		{"one unit more in eight roots", "0|0|0|0|0|0|0|0", []int{0, 1, 1, 1, 1, 1, 1, 1}, 1250001, nil},
		{"one unit more that the rounding leaves out", "0|0|0|0|0|0|0|11", []int{1, 1, 1, 1, 1, 1, 1, 0}, 1250001, []int{1250000, 1250000, 1250000, 1250000, 1250000, 1250000, 1250000, 625000, 625000}},
		{"a bed of MaxBed", "0|0", []int{1000000, 0}, 1000001, []int{1, 1000001}},
		{"a bed above MaxBed", "0|0", []int{1000001, 0}, 1000001, nil},
		{"a bed above MaxBed and above the surface", "0|0", []int{0, 1000001}, 5, nil},
		{"a negative bed", "0|0", []int{0, -1}, 5, nil},
		{"the least bed", "0|0", []int{math.MinInt, 0}, 5, nil},
		{"the greatest bed", "0|0", []int{0, math.MaxInt}, 5, nil},
		{"the least surface", "0", []int{0}, math.MinInt, nil},
		{"the greatest surface of an int", "0", []int{0}, math.MaxInt, nil},
		{"the least bed and the greatest surface", "0", []int{math.MinInt}, math.MaxInt, nil},
		{"no beds", "0", nil, 5, nil},
		{"no beds, but a list", "0", []int{}, 5, nil},
		{"one bed too few", "0|11", []int{0}, 5, nil},
		{"one bed too many", "0|11", []int{0, 0, 0}, 5, nil},
		{"a bed for each leaf", "11", []int{0, 0}, 5, nil},
		{"a mesh that is not balanced", "122|0", []int{0, 0}, 5, nil},
		{"a mesh that is not balanced, and nothing in it", "0|221", []int{9, 9}, 5, nil},
	}
	for _, c := range cases {
		m, _ := meshOfText(c.text, byText)
		want := impl.State{}
		if c.want != nil {
			want = impl.State{Mesh: m, Mass: c.want, Tracer: make([]int, len(c.want)), Bed: c.bed}
		}
		if got, ok := impl.FillState(m, c.bed, c.surface); ok != (c.want != nil) || !sameAsState(got, want) {
			t.Errorf("%s: FillState(%q, %v, %d) = %v, %v; want %v", c.name, c.text, c.bed, c.surface, got, ok, want)
		}
	}
}

// TestFillStateOfKnownMeshes fills meshes of all shapes and lengths, up to and over the greatest total.
func TestFillStateOfKnownMeshes(t *testing.T) {
	filled, refused := 0, 0
	for n, k := range knownMeshes() {
		m := impl.Balance(k.mesh)
		var bed []int
		for root := range m.Roots {
			bed = append(bed, []int{0, 1, 17, 1000000, 999999, 40, 31}[(n+root)%7])
		}
		for _, surface := range []int{0, 1, 31, 32, 47, 1000 + n, 999999, 1000000, 1000001, 1250000 + n, 1999999, 2000000} {
			if wantFilled(t, m, bed, surface) {
				filled++
			} else {
				refused++
			}
		}
		if got, ok := impl.FillState(k.mesh, bed, 100); textUneven(k.text) >= 0 && (ok || !sameAsState(got, impl.State{})) {
			t.Fatalf("FillState fills %q, which is not balanced", k.text)
		}
	}
	if filled < 1000 || refused < 1000 {
		t.Errorf("only %d states were filled and %d refused", filled, refused)
	}
}

// TestFillStateAtTheGreatestTotal looks for the surfaces up to which each mesh can be filled.
func TestFillStateAtTheGreatestTotal(t *testing.T) {
	for _, m := range baseMeshes(t) {
		m = impl.Balance(m)
		bed := make([]int, m.Roots)
		for surface := 10000000/m.Roots - 20; surface < 10000000/m.Roots+20; surface++ {
			if surface <= 2000000 {
				wantFilled(t, m, bed, surface)
			}
		}
	}
}

func TestFillStateOfInvalidMeshes(t *testing.T) {
	for _, m := range baseMeshes(t) {
		count := 0
		for spoilt := range spoiltMeshes(m) {
			if count++; count%5 != 0 {
				continue
			}
			for _, roots := range []int{0, 1, m.Roots, max(0, min(spoilt.Roots, 20))} {
				for _, surface := range []int{0, 5, -1} {
					if got, ok := impl.FillState(spoilt, make([]int, roots), surface); ok || !sameAsState(got, impl.State{}) {
						t.Fatalf("FillState(%v, %d beds, %d) = %v, %v", spoilt, roots, surface, got, ok)
					}
				}
			}
		}
	}
}

func TestFillStateAtExtremes(t *testing.T) {
	m, _ := impl.MeshNew(1, 1)
	for _, bed := range append(extremeInts(), 999999, 1000000, 1000001) {
		for _, surface := range append(extremeInts(), 1999999, 2000000, 2000001, 1000000) {
			if bed >= 0 && bed <= 1000000 && surface >= 0 && surface <= 2000000 {
				wantFilled(t, m, []int{bed}, surface)
			} else if got, ok := impl.FillState(m, []int{bed}, surface); ok || !sameAsState(got, impl.State{}) {
				t.Errorf("FillState with a bed of %d and a surface of %d is %v, %v", bed, surface, got, ok)
			}
		}
	}
}

// fitsWith tells whether a valid state stays valid with a Mass and a Tracer of the leaf i, computed without regard to the size of an int.
func fitsWith(s impl.State, i int, mass int, tracer int) bool {
	if i < 0 || i >= len(s.Mass) || mass < 0 || tracer < 0 {
		return false
	}
	total := big.NewInt(int64(mass))
	for j, other := range s.Mass {
		if j != i {
			total.Add(total, big.NewInt(int64(other)))
		}
	}
	most := new(big.Int).Mul(big.NewInt(int64(mass)), big.NewInt(1000))
	return total.Cmp(big.NewInt(10000000)) <= 0 && big.NewInt(int64(tracer)).Cmp(most) <= 0
}

// wantPut checks a change of a leaf of a valid state and returns the result.
func wantPut(t *testing.T, s impl.State, i int, mass int, tracer int) (impl.State, bool) {
	t.Helper()
	want := copyOfState(s)
	fits := fitsWith(s, i, mass, tracer)
	if fits {
		want.Mass[i], want.Tracer[i] = mass, tracer
	}
	got, ok := impl.PutCell(s, i, mass, tracer)
	if ok != fits || !sameAsState(got, want) {
		t.Fatalf("PutCell(%v, %d, %d, %d) = %v, %v; want %v, %v", s, i, mass, tracer, got, ok, want, fits)
	}
	wantTotals(t, got)
	return got, ok
}

func TestPutCell(t *testing.T) {
	m, _ := impl.ParseMesh("122|11")
	s := impl.State{Mesh: m, Mass: []int{49, 24, 24, 0, 7}, Tracer: []int{3, 0, 24000, 0, 6999}, Bed: []int{10, 200}}
	cases := []struct {
		name            string
		i, mass, tracer int
		want            bool
	}{
		{"the first leaf", 0, 5, 6, true},
		{"a leaf in the middle", 2, 5, 6, true},
		{"the last leaf", 4, 5, 6, true},
		{"one before the first leaf", -1, 5, 6, false},
		{"one past the last leaf", 5, 5, 6, false},
		{"two past the last leaf", 6, 5, 6, false},
		{"the least index", math.MinInt, 5, 6, false},
		{"the greatest index", math.MaxInt, 5, 6, false},
		{"the same numbers", 2, 24, 24000, true},
		{"the greatest share", 3, 7, 7000, true},
		{"one unit more than the greatest share", 3, 7, 7001, false},
		{"an empty leaf", 0, 0, 0, true},
		{"tracer in an empty leaf", 3, 0, 1, false},
		{"a mass too small for the tracer that was there", 2, 23, 24000, false},
		{"a mass for one unit of tracer", 3, 1, 1, true},
		{"a negative mass", 0, -1, 0, false},
		{"a negative tracer", 0, 5, -1, false},
		{"a negative mass and tracer", 0, -1, -1000, false},
		{"the greatest total", 0, 9999945, 0, true},
		{"one unit more than the greatest total", 0, 9999946, 0, false},
		{"the greatest total in the last leaf, with the greatest share", 4, 9999903, 9999903000, true},
		{"one unit more in the last leaf", 4, 9999904, 0, false},
		{"one unit of tracer more in the last leaf", 4, 9999903, 9999903001, false},
		{"the greatest mass of an int", 1, math.MaxInt, 0, false},
		{"the least mass of an int", 1, math.MinInt, 0, false},
		{"the greatest tracer of an int", 1, 1, math.MaxInt, false},
		{"the least tracer of an int", 1, 1, math.MinInt, false},
		{"a mass whose product with the greatest share does not fit", 1, 1 << 60, 1, false},
		{"a mass whose sum with the others does not fit", 1, math.MaxInt - 79, 1, false},
	}
	for _, c := range cases {
		if _, ok := wantPut(t, s, c.i, c.mass, c.tracer); ok != c.want {
			t.Errorf("%s: PutCell at %d of %d and %d is %v", c.name, c.i, c.mass, c.tracer, ok)
		}
	}
}

func TestPutCellInEachLeaf(t *testing.T) {
	for _, s := range baseStates(t) {
		free := 10000000 - impl.TotalMass(s)
		for i := -2; i <= len(s.Mass)+2; i++ {
			most := free
			if i >= 0 && i < len(s.Mass) {
				most += s.Mass[i]
			}
			for _, mass := range []int{-1, 0, 1, 7, most - 1, most, most + 1, 10000000, 10000001} {
				for _, tracer := range []int{-1, 0, 1, 1000*mass - 1, 1000 * mass, 1000*mass + 1} {
					wantPut(t, s, i, mass, tracer)
				}
			}
		}
	}
}

func TestPutCellAtExtremes(t *testing.T) {
	for _, s := range baseStates(t)[:6] {
		for _, n := range extremeInts() {
			for _, i := range []int{n, 0, len(s.Mass) - 1} {
				wantPut(t, s, i, 1, 1)
				wantPut(t, s, i, n, 1)
				wantPut(t, s, i, 1, n)
				wantPut(t, s, i, n, n)
			}
		}
	}
}

// TestTotalsChangeByWhatIsPut states the promise itself, and puts back what was in the leaf.
func TestTotalsChangeByWhatIsPut(t *testing.T) {
	for _, s := range baseStates(t) {
		for i := range s.Mass {
			for _, share := range []int{0, 1, 999, 1000} {
				mass := s.Mass[i]/2 + 3
				x, ok := impl.PutCell(s, i, mass, share*mass)
				if !ok {
					continue
				}
				massGrew, tracerGrew := impl.TotalMass(x)-impl.TotalMass(s), impl.TotalTracer(x)-impl.TotalTracer(s)
				if massGrew != mass-s.Mass[i] || tracerGrew != share*mass-s.Tracer[i] {
					t.Fatalf("the totals of %v change by %d and %d if %d and %d are put into the leaf %d", s, massGrew, tracerGrew, mass, share*mass, i)
				}
				back, ok := impl.PutCell(x, i, s.Mass[i], s.Tracer[i])
				if !ok || !sameAsState(back, s) {
					t.Fatalf("putting back the leaf %d gives %v, %v; want %v", i, back, ok, s)
				}
			}
		}
	}
}

func TestStatesAreNewMemory(t *testing.T) {
	for _, s := range baseStates(t) {
		for i := -1; i <= len(s.Mass); i++ {
			for _, mass := range []int{0, 2, 10000001} {
				wantOwnMemory(t, "PutCell", s, func(s impl.State) (impl.State, bool) { return impl.PutCell(s, i, mass, mass) })
			}
		}
		for _, surface := range []int{100, -1} {
			wantOwnMemory(t, "FillState", s, func(s impl.State) (impl.State, bool) { return impl.FillState(s.Mesh, s.Bed, surface) })
		}
	}
	for _, s := range unevenStates(t) {
		wantOwnMemory(t, "PutCell of a state that is not valid", s, func(s impl.State) (impl.State, bool) { return impl.PutCell(s, 0, 1, 1) })
	}
}

// TestTotalsDoNotChangeTheState calls the functions that return no state.
func TestTotalsDoNotChangeTheState(t *testing.T) {
	for _, s := range append(baseStates(t), unevenStates(t)...) {
		given := withSpare(s)
		before := copyOfState(withAll(given))
		ok, mass, tracer := impl.StateOk(given), impl.TotalMass(given), impl.TotalTracer(given)
		if !sameAsState(withAll(given), before) {
			t.Errorf("the state %v has been changed: %v", before, withAll(given))
		}
		if ok != impl.StateOk(s) || mass != impl.TotalMass(s) || tracer != impl.TotalTracer(s) {
			t.Errorf("the spare capacity behind %v counts: %v, %d, %d", s, ok, mass, tracer)
		}
	}
}

// TestListsOfOneArray has a state whose lists lie in one array, one behind the other.
func TestListsOfOneArray(t *testing.T) {
	m, _ := impl.ParseMesh("11")
	numbers := []int{5, 6, 70, 80, 9}
	s := impl.State{Mesh: m, Mass: numbers[0:2], Tracer: numbers[2:4], Bed: numbers[4:5]}
	x, ok := impl.PutCell(s, 1, 3, 4)
	want := impl.State{Mesh: m, Mass: []int{5, 3}, Tracer: []int{70, 4}, Bed: []int{9}}
	if !ok || !sameAsState(x, want) || !slices.Equal(numbers, []int{5, 6, 70, 80, 9}) {
		t.Errorf("PutCell gives %v, %v, and the array is %v", x, ok, numbers)
	}
	all := append(slices.Clone(x.Mass), x.Tracer...)
	_, _, _ = append(x.Mass, -1), append(x.Tracer, -1), append(x.Bed, -1)
	if !slices.Equal(append(slices.Clone(x.Mass), x.Tracer...), all) || x.Bed[0] != 9 {
		t.Errorf("the lists of the result share memory: %v", x)
	}
}
