package tests

import (
	"math"
	"slices"
	"testing"

	"loop.example/g00982/impl"
)

// A meshChange is one of the two changes of a mesh, with the question whether it may be made and with its oracle, which rewrites the text of a mesh.
type meshChange struct {
	name   string
	may    func(m impl.Mesh, i int) bool
	change func(m impl.Mesh, i int) (impl.Mesh, bool)
	oracle func(text string, i int) (string, bool)
}

func refining() meshChange {
	return meshChange{name: "refining", may: impl.MayRefine, change: impl.RefineLeaf, oracle: refinedText}
}

func coarsening(byText map[string]rootShape) meshChange {
	oracle := func(text string, i int) (string, bool) { return coarsenedText(text, i, byText) }
	return meshChange{name: "coarsening", may: impl.MayCoarsen, change: impl.CoarsenPair, oracle: oracle}
}

// leafDigits returns where the digits of the leaves are in the text of a mesh.
func leafDigits(text string) []int {
	var places []int
	for place := range len(text) {
		if text[place] != '|' {
			places = append(places, place)
		}
	}
	return places
}

// refinedText writes two greater digits for the one of the leaf i.
func refinedText(text string, i int) (string, bool) {
	places := leafDigits(text)
	if i < 0 || i >= len(places) || text[places[i]] == '4' {
		return "", false
	}
	place := places[i]
	finer := string([]byte{text[place] + 1})
	return text[:place] + finer + finer + text[place+1:], true
}

// coarsenedText writes one smaller digit for the two equal ones of the leaves i and i+1. Two cells of a level are
// siblings exactly if there is a way to divide the root that has their parent in their place.
func coarsenedText(text string, i int, byText map[string]rootShape) (string, bool) {
	places := leafDigits(text)
	if i < 0 || i >= len(places)-1 {
		return "", false
	}
	place := places[i]
	digit := text[place]
	if text[place+1] != digit || digit == '0' {
		return "", false
	}
	if i > 0 && text[places[i-1]] > digit || i < len(places)-2 && text[places[i+2]] > digit {
		return "", false
	}
	joined := text[:place] + string([]byte{digit - 1}) + text[place+2:]
	_, ok := meshOfText(joined, byText)
	return joined, ok
}

// wantChange checks a change of the leaf i of a mesh that must give the mesh want, or must be refused if ok is false.
func wantChange(t *testing.T, c meshChange, m impl.Mesh, i int, want impl.Mesh, ok bool) {
	t.Helper()
	if may := c.may(m, i); may != ok {
		t.Errorf("%s %q, %v, at %d: may be done: %v", c.name, impl.FormatMesh(m), m, i, may)
	}
	if !ok {
		want = m
	}
	if got, done := c.change(m, i); done != ok || !sameAsMesh(got, want) {
		t.Errorf("%s %q, %v, at %d gives %q, %v, %v; want %v, %v", c.name, impl.FormatMesh(m), m, i, impl.FormatMesh(got), got, done, want, ok)
	}
}

// wantChanges checks both changes of a mesh with this text at an index.
func wantChanges(t *testing.T, m impl.Mesh, text string, i int, byText map[string]rootShape) {
	t.Helper()
	for _, c := range []meshChange{refining(), coarsening(byText)} {
		changed, ok := c.oracle(text, i)
		want := impl.Mesh{}
		if ok {
			want = meshWithText(t, changed, byText)
		}
		wantChange(t, c, m, i, want, ok)
	}
}

// wantNoChanges checks that both changes of a mesh that is not valid are refused at each index.
func wantNoChanges(t *testing.T, m impl.Mesh) {
	t.Helper()
	for _, i := range []int{-1, 0, 1, 2, 3, len(m.Leaves) - 2, len(m.Leaves) - 1, len(m.Leaves), math.MinInt, math.MaxInt} {
		wantChange(t, refining(), m, i, impl.Mesh{}, false)
		wantChange(t, coarsening(nil), m, i, impl.Mesh{}, false)
	}
	if t.Failed() {
		t.FailNow()
	}
}

type changeCase struct {
	name string
	text string
	i    int
	want string // "" if the change is refused
}

func wantChangeCases(t *testing.T, c meshChange, cases []changeCase) {
	t.Helper()
	byText := shapesByText()
	for _, k := range cases {
		m := meshWithText(t, k.text, byText)
		want := impl.Mesh{}
		if k.want != "" {
			want = meshWithText(t, k.want, byText)
		}
		wantChange(t, c, m, k.i, want, k.want != "")
		if t.Failed() {
			t.Fatalf("%s", k.name)
		}
	}
}

func TestRefineLeaf(t *testing.T) {
	wantChangeCases(t, refining(), []changeCase{
		{"a mesh of one leaf", "0", 0, "11"},
		{"one before the only leaf", "0", -1, ""},
		{"one past the only leaf", "0", 1, ""},
		{"the first leaf", "122", 0, "2222"},
		{"a leaf in the middle", "122", 1, "1332"},
		{"the last leaf", "122", 2, "1233"},
		{"one before the first leaf", "122", -1, ""},
		{"one past the last leaf", "122", 3, ""},
		{"two past the last leaf", "122", 4, ""},
		{"the first root of two", "0|0", 0, "11|0"},
		{"the last root of two", "0|0", 1, "0|11"},
		{"one past the last root", "0|0", 2, ""},
		{"the last root of eight", "0|0|0|0|0|0|0|0", 7, "0|0|0|0|0|0|0|11"},
		{"one past the last root of eight", "0|0|0|0|0|0|0|0", 8, ""},
		{"a root between two others", "122|0|221", 3, "122|11|221"},
		{"the level below the greatest", "12344", 2, "124444"},
		{"the left leaf of the greatest level", "12344", 3, ""},
		{"the right leaf of the greatest level", "12344", 4, ""},
		{"the first leaf, of the greatest level", "44321", 0, ""},
		{"the first leaf, of the level below the greatest", "33333333", 0, "443333333"},
		{"the last leaf, of the level below the greatest", "33333333", 7, "333333344"},
		{"the first of the finest leaves", "4444444444444444", 0, ""},
		{"the last of the finest leaves", "4444444444444444", 15, ""},
		{"a leaf with a neighbour that is much finer", "0|4444444444444444", 0, "11|4444444444444444"},
		{"a leaf with a neighbour that is much coarser", "0|34421", 1, "0|444421"},
		{"a balanced mesh that is not balanced then", "122|0", 2, "1233|0"},
	})
}

func TestCoarsenPair(t *testing.T) {
	wantChangeCases(t, coarsening(shapesByText()), []changeCase{
		{"a mesh of one leaf", "0", 0, ""},
		{"one before the only leaf", "0", -1, ""},
		{"a mesh of one pair", "11", 0, "0"},
		{"the last leaf of a pair", "11", 1, ""},
		{"one past the only pair", "11", 2, ""},
		{"one before the only pair", "11", -1, ""},
		{"a pair at the left end", "221", 0, "11"},
		{"a pair at the right end", "122", 1, "11"},
		{"the last leaf, which has no right neighbour", "122", 2, ""},
		{"one past the last leaf", "122", 3, ""},
		{"a pair at the left end of the finest mesh", "4444444444444444", 0, "344444444444444"},
		{"a pair at the right end of the finest mesh", "4444444444444444", 14, "444444444444443"},
		{"a pair in the last root of eight", "0|0|0|0|0|0|0|11", 7, "0|0|0|0|0|0|0|0"},
		{"two leaves of different levels", "122", 0, ""},
		{"two leaves of different levels, the finer one first", "221", 1, ""},
		{"two leaves of one level that are not siblings", "2222", 1, ""},
		{"two fine leaves of one level that are not siblings", "33331", 1, ""},
		{"two leaves of one level with different parents", "4444444444444444", 7, ""},
		{"two roots", "0|0", 0, ""},
		{"two leaves of one level at a border", "11|11", 1, ""},
		{"two fine leaves of one level at a border", "122|221", 2, ""},
		{"two of the finest leaves at a border", "4444444444444444|4444444444444444", 15, ""},
		{"two leaves of the same place in different roots", "221|122", 1, ""},
		{"neighbours of the same level on both sides", "4444444444444444", 4, "444434444444444"},
		{"a neighbour of the same level on the left", "2222", 2, "221"},
		{"a neighbour of the same level on the right", "2222", 0, "122"},
		{"coarser neighbours on both sides", "1332", 1, "122"},
		{"coarser neighbours beyond the borders", "0|11|0", 1, "0|0|0"},
		{"a neighbour of the same level beyond the border on the left", "11|11", 2, "11|0"},
		{"a neighbour of the same level beyond the border on the right", "11|11", 0, "0|11"},
		{"a coarser neighbour on the right, and none on the left", "33222", 0, "2222"},
		{"a coarser neighbour on the left, and none on the right", "22233", 3, "2222"},
		{"a pair right of finer leaves", "23322", 3, ""},
		{"a pair left of finer leaves", "22332", 0, ""},
		{"a pair right of finer leaves beyond the border", "122|11", 3, ""},
		{"a pair left of finer leaves beyond the border", "11|221", 0, ""},
		{"a pair between finer leaves", "122|11|221", 3, ""},
		{"a pair between a finer and a coarser leaf", "122|11|0", 3, ""},
		{"a pair between a coarser and a finer leaf", "0|11|221", 1, ""},
		{"finer leaves further away", "122|11|11|11|221", 5, "122|11|0|11|221"},
		{"a pair beside a pair that may not be coarsened", "22332", 2, "2222"},
	})
}

func TestCoarsenPairOfMeshesThatAreNotBalanced(t *testing.T) {
	wantChangeCases(t, coarsening(shapesByText()), []changeCase{
		{"a neighbour that is coarser by 2, on the left", "0|221", 1, "0|11"},
		{"a neighbour that is coarser by 2, on the right", "122|0", 1, "11|0"},
		{"a neighbour that is coarser by 3, on the left", "0|3321", 1, "0|221"},
		{"a neighbour that is coarser by 4, on the left", "0|4444444444444444", 1, "0|344444444444444"},
		{"a neighbour that is coarser by 4, on the right", "4444444444444444|0", 14, "444444444444443|0"},
		{"a neighbour that is finer by 3, on the left", "4444444444444444|11", 16, ""},
		{"a neighbour that is finer by 3, on the right", "11|4444444444444444", 0, ""},
		{"a neighbour that is finer by 2, on the left", "1233|11", 4, ""},
		{"a neighbour that is finer by 2, on the right", "11|3321", 0, ""},
		{"leaves further away that are not balanced", "0|221|11", 4, "0|221|0"},
		{"a pair before leaves that are not balanced", "11|0|221", 0, "0|0|221"},
	})
}

// TestChangesOfKnownMeshes checks both changes at each index of every way to divide a root, and of channels of all lengths.
func TestChangesOfKnownMeshes(t *testing.T) {
	byText := shapesByText()
	for n, k := range knownMeshes() {
		if k.mesh.Roots > 1 && n%3 != 0 {
			continue
		}
		for i := -2; i <= len(k.mesh.Leaves)+2; i++ {
			wantChanges(t, k.mesh, k.text, i, byText)
		}
		if t.Failed() {
			t.FailNow()
		}
	}
}

func TestChangesAtExtremeIndices(t *testing.T) {
	byText := shapesByText()
	for _, m := range baseMeshes(t) {
		text := impl.FormatMesh(m)
		for _, i := range append(extremeCellNumbers(), len(m.Leaves)-2, len(m.Leaves)-1, len(m.Leaves), len(m.Leaves)+1) {
			wantChanges(t, m, text, i, byText)
		}
	}
}

func TestChangesOfOneLeaf(t *testing.T) {
	for _, level := range []int{0, 1} {
		m := impl.Mesh{Roots: 1, Leaves: []impl.Id{{Level: level}}}
		for _, i := range extremeCellNumbers() {
			refined := impl.Mesh{Roots: 1, Leaves: []impl.Id{{Level: 1}, {Level: 1, Index: 1}}}
			wantChange(t, refining(), m, i, refined, level == 0 && i == 0)
			wantChange(t, coarsening(nil), m, i, impl.Mesh{}, false)
		}
	}
}

// wantReplaced checks that all leaves of two meshes are equal, but the leaf i of the coarser one, which has its two children in the finer one.
func wantReplaced(t *testing.T, coarser impl.Mesh, finer impl.Mesh, i int) {
	t.Helper()
	if !impl.MeshOk(coarser) || !impl.MeshOk(finer) || coarser.Roots != finer.Roots || len(finer.Leaves) != len(coarser.Leaves)+1 {
		t.Fatalf("%v and %v are not valid, or not of one channel, or do not differ by one leaf", coarser, finer)
	}
	if !slices.Equal(coarser.Leaves[:i], finer.Leaves[:i]) || !slices.Equal(coarser.Leaves[i+1:], finer.Leaves[i+2:]) {
		t.Fatalf("%v and %v differ beside the leaf %d", coarser, finer, i)
	}
	left, _ := impl.ChildOf(coarser.Leaves[i], 0)
	right, _ := impl.ChildOf(coarser.Leaves[i], 1)
	if finer.Leaves[i] != left || finer.Leaves[i+1] != right || !impl.IsSibling(finer.Leaves[i], finer.Leaves[i+1]) {
		t.Fatalf("%v and %v are not the children of %v", finer.Leaves[i], finer.Leaves[i+1], coarser.Leaves[i])
	}
}

// hasFinerNeighbour reports whether the left or the right neighbour of the leaf i is finer than a level.
func hasFinerNeighbour(m impl.Mesh, i int, level int) bool {
	return i > 0 && m.Leaves[i-1].Level > level || i < len(m.Leaves)-1 && m.Leaves[i+1].Level > level
}

// TestCoarseningUndoesRefining states the promise itself. In a mesh that is not balanced, the children of a leaf may
// have a finer neighbour; then they may not be coarsened.
func TestCoarseningUndoesRefining(t *testing.T) {
	undone, refused := 0, 0
	for _, k := range knownMeshes() {
		for i, leaf := range k.mesh.Leaves {
			finer, ok := impl.RefineLeaf(k.mesh, i)
			if ok != (leaf.Level < 4) {
				t.Fatalf("refining %q at %d gives %v", k.text, i, ok)
			}
			if !ok {
				continue
			}
			wantReplaced(t, k.mesh, finer, i)
			want := !hasFinerNeighbour(k.mesh, i, leaf.Level+1)
			back, ok := impl.CoarsenPair(finer, i)
			if ok != want || impl.MayCoarsen(finer, i) != want || want && !impl.SameMesh(back, k.mesh) || want && !sameAsMesh(back, k.mesh) {
				t.Fatalf("refining %q at %d gives %q, and coarsening that %q, %v", k.text, i, impl.FormatMesh(finer), impl.FormatMesh(back), ok)
			}
			if want {
				undone++
			} else {
				refused++
			}
		}
	}
	if undone < 1000 || refused < 1000 {
		t.Errorf("only %d refinements were undone and %d not", undone, refused)
	}
}

func TestRefiningUndoesCoarsening(t *testing.T) {
	count := 0
	for _, k := range knownMeshes() {
		for i := range k.mesh.Leaves {
			coarser, ok := impl.CoarsenPair(k.mesh, i)
			if !ok {
				continue
			}
			count++
			wantReplaced(t, coarser, k.mesh, i)
			if back, ok := impl.RefineLeaf(coarser, i); !ok || !impl.SameMesh(back, k.mesh) || !sameAsMesh(back, k.mesh) {
				t.Fatalf("coarsening %q at %d gives %q, and refining that %q, %v", k.text, i, impl.FormatMesh(coarser), impl.FormatMesh(back), ok)
			}
		}
	}
	if count < 1000 {
		t.Errorf("only %d pairs were coarsened", count)
	}
}

// TestChangesOfBalancedMeshes checks that coarsening keeps the balance, that a refined leaf can always be coarsened
// again there, and that refining loses the balance exactly if a neighbour is coarser.
func TestChangesOfBalancedMeshes(t *testing.T) {
	coarsened, lost := 0, 0
	for _, k := range knownMeshes() {
		m := impl.Balance(k.mesh)
		for i, leaf := range m.Leaves {
			if coarser, ok := impl.CoarsenPair(m, i); ok {
				coarsened++
				if text := impl.FormatMesh(coarser); !impl.IsBalanced(coarser) || textUneven(text) >= 0 {
					t.Fatalf("coarsening %q at %d gives %q, which is not balanced", impl.FormatMesh(m), i, text)
				}
			}
			finer, ok := impl.RefineLeaf(m, i)
			if !ok {
				continue
			}
			back, ok := impl.CoarsenPair(finer, i)
			if !ok || !sameAsMesh(back, m) {
				t.Fatalf("refining %q at %d gives %q, and coarsening that %q, %v", impl.FormatMesh(m), i, impl.FormatMesh(finer), impl.FormatMesh(back), ok)
			}
			coarse := i > 0 && m.Leaves[i-1].Level < leaf.Level || i < len(m.Leaves)-1 && m.Leaves[i+1].Level < leaf.Level
			if impl.IsBalanced(finer) == coarse {
				t.Fatalf("refining %q at %d gives %q; balanced: %v", impl.FormatMesh(m), i, impl.FormatMesh(finer), !coarse)
			}
			if coarse {
				lost++
			}
		}
	}
	if coarsened < 1000 || lost < 1000 {
		t.Errorf("only %d pairs were coarsened, and %d refinements lost the balance", coarsened, lost)
	}
}

// TestFromOneLeafToTheFinestMesh refines the first leaf that may be refined until there is none, and coarsens the last pair until there is none.
func TestFromOneLeafToTheFinestMesh(t *testing.T) {
	coarsest, _ := impl.MeshNew(8, 0)
	finest, _ := impl.MeshNew(8, 4)
	m := coarsest
	for i := 0; i < len(m.Leaves); {
		finer, ok := impl.RefineLeaf(m, i)
		if !ok {
			i++
		}
		m = finer
	}
	if !impl.SameMesh(m, finest) || !sameAsMesh(m, finest) {
		t.Fatalf("refining ends at %q", impl.FormatMesh(m))
	}
	for i := len(m.Leaves); i >= 0; {
		coarser, ok := impl.CoarsenPair(m, i)
		i--
		if ok {
			i = len(coarser.Leaves)
		}
		m = coarser
	}
	if !impl.SameMesh(m, coarsest) || !sameAsMesh(m, coarsest) {
		t.Fatalf("coarsening ends at %q", impl.FormatMesh(m))
	}
}

func TestChangesOfInvalidMeshes(t *testing.T) {
	for _, m := range baseMeshes(t) {
		for spoilt := range spoiltMeshes(m) {
			wantNoChanges(t, spoilt)
		}
	}
	for _, roots := range extremeCellNumbers() {
		wantNoChanges(t, impl.Mesh{Roots: roots})
		wantNoChanges(t, impl.Mesh{Roots: roots, Leaves: []impl.Id{}})
	}
	for _, x := range invalidIds() {
		wantNoChanges(t, impl.Mesh{Roots: 1, Leaves: []impl.Id{x}})
		wantNoChanges(t, impl.Mesh{Roots: 2, Leaves: []impl.Id{{}, x}})
		wantNoChanges(t, impl.Mesh{Roots: 2, Leaves: []impl.Id{x, {Root: 1}}})
	}
	wantNoChanges(t, impl.Mesh{Roots: 8, Leaves: slices.Repeat([]impl.Id{{Level: 1}, {Level: 1, Index: 1}}, 50000)})
}

// TestChangesOfMeshesThatAreAlmostValid has leaves and pairs that could be changed, were the rest of the mesh valid.
func TestChangesOfMeshesThatAreAlmostValid(t *testing.T) {
	left := func(root int) impl.Id { return impl.Id{Root: root, Level: 1} }
	right := func(root int) impl.Id { return impl.Id{Root: root, Level: 1, Index: 1} }
	meshes := []impl.Mesh{
		{Roots: 0, Leaves: []impl.Id{left(0), right(0)}},
		{Roots: -1, Leaves: []impl.Id{left(0), right(0)}},
		{Roots: 9, Leaves: []impl.Id{left(0), right(0)}},
		{Roots: 2, Leaves: []impl.Id{left(0), right(0)}},
		{Roots: 1, Leaves: []impl.Id{left(0), right(0), {Root: 1}}},
		{Roots: 1, Leaves: []impl.Id{left(1), right(1)}},
		{Roots: 2, Leaves: []impl.Id{left(1), right(1)}},
		{Roots: 2, Leaves: []impl.Id{left(1), right(1), {}}},
		{Roots: 2, Leaves: []impl.Id{left(0), right(0), left(0), right(0)}},
		{Roots: 2, Leaves: []impl.Id{left(0), right(0), {Root: 1, Level: 5}}},
		{Roots: 2, Leaves: []impl.Id{left(0), right(0), {Root: 1, Level: -1}}},
		{Roots: 2, Leaves: []impl.Id{{}, left(1)}},
		{Roots: 2, Leaves: []impl.Id{{}, right(1)}},
		{Roots: 9, Leaves: []impl.Id{left(0), right(0), {Root: 1}, {Root: 2}, {Root: 3}, {Root: 4}, {Root: 5}, {Root: 6}, {Root: 7}, {Root: 8}}},
	}
	for _, m := range meshes {
		wantNoChanges(t, m)
	}
}

// TestChangesReturnNewMemory writes into the results, also into those of refused changes, and looks at the arguments with the spare capacity behind them.
func TestChangesReturnNewMemory(t *testing.T) {
	meshes := append(baseMeshes(t), impl.Mesh{Roots: 9, Leaves: []impl.Id{{}, {Root: 3}}}, impl.Mesh{Leaves: []impl.Id{{Level: 7}}}, impl.Mesh{Roots: 1, Leaves: []impl.Id{}})
	for _, m := range meshes {
		for _, c := range []meshChange{refining(), coarsening(nil)} {
			for i := -1; i <= len(m.Leaves); i++ {
				spare := slices.Concat(m.Leaves, slices.Repeat([]impl.Id{{Root: 77}}, 60))
				given := impl.Mesh{Roots: m.Roots, Leaves: spare[:len(m.Leaves)]}
				before := slices.Clone(spare)
				may := c.may(given, i)
				got, ok := c.change(given, i)
				want := slices.Clone(got.Leaves)
				full := got.Leaves[:cap(got.Leaves)]
				for n := range full {
					full[n] = impl.Id{Root: 55}
				}
				if given.Roots != m.Roots || !slices.Equal(spare, before) {
					t.Fatalf("%s %v at %d, %v: the argument shares memory with the result, or is changed: %v", c.name, m, i, ok, spare)
				}
				if again, done := c.change(given, i); done != ok || may != ok || !slices.Equal(again.Leaves, want) {
					t.Fatalf("%s %v at %d gives %v after a change of an earlier result; want %v", c.name, m, i, again.Leaves, want)
				}
			}
		}
	}
}

// TestChangedArgumentsDoNotShow writes into the argument after the call and looks at the result.
func TestChangedArgumentsDoNotShow(t *testing.T) {
	for _, m := range baseMeshes(t) {
		for _, c := range []meshChange{refining(), coarsening(nil)} {
			for i := -1; i <= len(m.Leaves); i++ {
				spare := slices.Concat(m.Leaves, slices.Repeat([]impl.Id{{Root: 77}}, 60))
				got, _ := c.change(impl.Mesh{Roots: m.Roots, Leaves: spare[:len(m.Leaves)]}, i)
				want := slices.Clone(got.Leaves)
				for n := range spare {
					spare[n] = impl.Id{Root: 55}
				}
				if !slices.Equal(got.Leaves, want) {
					t.Fatalf("%s %v at %d gives leaves that change with the argument: %v", c.name, m, i, got.Leaves)
				}
			}
		}
	}
}

// wantSame checks SameMesh in both orders.
func wantSame(t *testing.T, a impl.Mesh, b impl.Mesh, want bool) {
	t.Helper()
	if x, y := impl.SameMesh(a, b), impl.SameMesh(b, a); x != want || y != want {
		t.Errorf("SameMesh(%v, %v) is %v, and %v the other way round; want %v", a, b, x, y, want)
	}
}

func TestSameMesh(t *testing.T) {
	odd := impl.Id{Root: -3, Level: 9, Index: math.MaxInt}
	pair := []impl.Id{{Level: 1}, {Level: 1, Index: 1}}
	cases := []struct {
		name string
		a, b impl.Mesh
		want bool
	}{
		{"equal meshes", impl.Mesh{Roots: 1, Leaves: pair}, impl.Mesh{Roots: 1, Leaves: slices.Clone(pair)}, true},
		{"another number of roots", impl.Mesh{Roots: 1, Leaves: pair}, impl.Mesh{Roots: 2, Leaves: pair}, false},
		{"one leaf less", impl.Mesh{Roots: 1, Leaves: pair}, impl.Mesh{Roots: 1, Leaves: pair[:1]}, false},
		{"the first leaf missing", impl.Mesh{Roots: 1, Leaves: pair}, impl.Mesh{Roots: 1, Leaves: pair[1:]}, false},
		{"no leaves", impl.Mesh{Roots: 1, Leaves: pair}, impl.Mesh{Roots: 1}, false},
		{"another order", impl.Mesh{Roots: 1, Leaves: pair}, impl.Mesh{Roots: 1, Leaves: []impl.Id{pair[1], pair[0]}}, false},
		{"another root of the last leaf", impl.Mesh{Roots: 2, Leaves: []impl.Id{{}, {Root: 1}}}, impl.Mesh{Roots: 2, Leaves: []impl.Id{{}, {Root: 2}}}, false},
		{"another level of a leaf", impl.Mesh{Roots: 1, Leaves: []impl.Id{{}}}, impl.Mesh{Roots: 1, Leaves: []impl.Id{{Level: 1}}}, false},
		{"another index of a leaf", impl.Mesh{Roots: 1, Leaves: []impl.Id{{Level: 1}}}, impl.Mesh{Roots: 1, Leaves: pair[1:]}, false},
		{"zero meshes", impl.Mesh{}, impl.Mesh{}, true},
		{"no leaves and nil", impl.Mesh{Roots: 3}, impl.Mesh{Roots: 3, Leaves: []impl.Id{}}, true},
		{"no leaves and another number of roots", impl.Mesh{Roots: 3}, impl.Mesh{Roots: 4}, false},
		{"equal meshes with negative roots", impl.Mesh{Roots: -1, Leaves: pair}, impl.Mesh{Roots: -1, Leaves: slices.Clone(pair)}, true},
		{"equal meshes with too many roots", impl.Mesh{Roots: 9, Leaves: pair}, impl.Mesh{Roots: 9, Leaves: slices.Clone(pair)}, true},
		{"different meshes with too many roots", impl.Mesh{Roots: 9, Leaves: pair}, impl.Mesh{Roots: 10, Leaves: pair}, false},
		{"equal meshes with an invalid leaf", impl.Mesh{Roots: 1, Leaves: []impl.Id{odd}}, impl.Mesh{Roots: 1, Leaves: []impl.Id{odd}}, true},
		{"different invalid leaves", impl.Mesh{Roots: 1, Leaves: []impl.Id{{Level: 5}}}, impl.Mesh{Roots: 1, Leaves: []impl.Id{{Level: 6}}}, false},
		{"a valid and an invalid leaf", impl.Mesh{Roots: 1, Leaves: []impl.Id{{}}}, impl.Mesh{Roots: 1, Leaves: []impl.Id{odd}}, false},
	}
	for _, c := range cases {
		wantSame(t, c.a, c.b, c.want)
		if t.Failed() {
			t.Fatalf("%s", c.name)
		}
	}
}

// TestSameMeshOfKnownMeshes compares meshes with different texts, which differ.
func TestSameMeshOfKnownMeshes(t *testing.T) {
	var meshes []knownMesh
	for n, k := range knownMeshes() {
		if n%7 == 0 {
			meshes = append(meshes, k)
		}
	}
	for _, a := range meshes {
		for _, b := range meshes {
			if got := impl.SameMesh(a.mesh, b.mesh); got != (a.text == b.text) {
				t.Fatalf("SameMesh of %q and %q is %v", a.text, b.text, got)
			}
		}
		copied := impl.Mesh{Roots: a.mesh.Roots, Leaves: slices.Clone(a.mesh.Leaves)}
		wantSame(t, a.mesh, copied, true)
	}
}

func TestSameMeshOfSpoiltMeshes(t *testing.T) {
	for _, m := range baseMeshes(t) {
		for spoilt := range spoiltMeshes(m) {
			wantSame(t, m, spoilt, false)
			wantSame(t, spoilt, impl.Mesh{Roots: spoilt.Roots, Leaves: slices.Clone(spoilt.Leaves)}, true)
		}
		if t.Failed() {
			t.FailNow()
		}
	}
}

func TestSameMeshDoesNotChangeTheMeshes(t *testing.T) {
	for _, m := range baseMeshes(t) {
		spare := slices.Concat(m.Leaves, slices.Repeat([]impl.Id{{Root: 77}}, 5))
		given := impl.Mesh{Roots: m.Roots, Leaves: spare[:len(m.Leaves)]}
		before := slices.Clone(spare)
		wantSame(t, given, m, true)
		wantSame(t, given, impl.Mesh{Roots: m.Roots, Leaves: spare}, false)
		if given.Roots != m.Roots || !slices.Equal(spare, before) {
			t.Errorf("the mesh %v has been changed: %v", before, spare)
		}
	}
}
