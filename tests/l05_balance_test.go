package tests

import (
	"math"
	"slices"
	"testing"

	"loop.example/g00982/impl"
)

// textFaces returns the faces of a mesh, found in its text: for each pair of adjacent leaves, where their digits are.
func textFaces(text string) [][2]int {
	var faces [][2]int
	last := -1
	for i := range len(text) {
		if text[i] == '|' {
			continue
		}
		if last >= 0 {
			faces = append(faces, [2]int{last, i})
		}
		last = i
	}
	return faces
}

// textFaceLevels returns the greater digit of each face.
func textFaceLevels(text string) []int {
	var levels []int
	for _, face := range textFaces(text) {
		levels = append(levels, int(max(text[face[0]], text[face[1]])-'0'))
	}
	return levels
}

// textUneven returns the first face whose digits differ by more than 1, or -1.
func textUneven(text string) int {
	return slices.IndexFunc(textFaces(text), func(face [2]int) bool {
		return max(text[face[0]], text[face[1]]) > min(text[face[0]], text[face[1]])+1
	})
}

// balancedText is the oracle of Balance: it writes two digits for the smaller one of a face, without regard to cells.
func balancedText(text string) string {
	for i := textUneven(text); i >= 0; i = textUneven(text) {
		face := textFaces(text)[i]
		coarser := face[0]
		if text[face[1]] < text[coarser] {
			coarser = face[1]
		}
		finer := string([]byte{text[coarser] + 1})
		text = text[:coarser] + finer + finer + text[coarser+1:]
	}
	return text
}

// wantFaces checks what each function says of the faces of a mesh with this text.
func wantFaces(t *testing.T, m impl.Mesh, text string) {
	t.Helper()
	levels := textFaceLevels(text)
	for i, want := range levels {
		if got := impl.FaceLevel(m, i); got != want {
			t.Errorf("FaceLevel of %q at %d is %d; want %d", text, i, got, want)
		}
	}
	for _, i := range []int{-1, len(levels), len(levels) + 1} {
		if got := impl.FaceLevel(m, i); got != -1 {
			t.Errorf("FaceLevel of %q at %d is %d; want -1", text, i, got)
		}
	}
	for level := -2; level <= 6; level++ {
		want := 0
		for _, x := range levels {
			if x == level {
				want++
			}
		}
		if got := impl.CountFaces(m, level); got != want {
			t.Errorf("CountFaces of %q at the level %d is %d; want %d", text, level, got, want)
		}
	}
	uneven := textUneven(text)
	if got := impl.FirstUnbalanced(m); got != uneven {
		t.Errorf("FirstUnbalanced of %q is %d; want %d", text, got, uneven)
	}
	if got := impl.IsBalanced(m); got != (uneven < 0) {
		t.Errorf("IsBalanced of %q is %v", text, got)
	}
}

// wantNoFaces checks what each function says of a mesh that is not valid.
func wantNoFaces(t *testing.T, m impl.Mesh) {
	t.Helper()
	for _, i := range []int{-1, 0, 1, 2, len(m.Leaves) - 2, len(m.Leaves) - 1, len(m.Leaves), math.MinInt, math.MaxInt} {
		if got := impl.FaceLevel(m, i); got != -1 {
			t.Fatalf("FaceLevel(%v, %d) = %d; want -1", m, i, got)
		}
	}
	if impl.IsBalanced(m) {
		t.Fatalf("IsBalanced(%v) = true", m)
	}
	if got := impl.FirstUnbalanced(m); got != -1 {
		t.Fatalf("FirstUnbalanced(%v) = %d; want -1", m, got)
	}
	for _, level := range []int{-1, 0, 1, 2, 3, 4, 5, math.MinInt, math.MaxInt} {
		if got := impl.CountFaces(m, level); got != 0 {
			t.Fatalf("CountFaces(%v, %d) = %d; want 0", m, level, got)
		}
	}
	if got := impl.Balance(m); !sameAsMesh(got, m) {
		t.Fatalf("Balance(%v) = %v; want it unchanged", m, got)
	}
}

func TestFaceLevel(t *testing.T) {
	cases := []struct {
		text string
		i    int
		want int
	}{
		{"0|11", -1, -1}, {"0|11", 0, 1}, {"0|11", 1, 1}, {"0|11", 2, -1}, {"0|11", 3, -1},
		{"122|0", -1, -1}, {"122|0", 0, 2}, {"122|0", 1, 2}, {"122|0", 2, 2}, {"122|0", 3, -1}, {"122|0", 4, -1},
		{"0|122", 0, 1}, {"0|221", 0, 2}, {"0|44321", 0, 4}, {"44321|0", 3, 2}, {"44321|0", 4, 1}, {"44321|0", 5, -1},
		{"0|0", 0, 0}, {"0|0", 1, -1}, {"0|0", -1, -1},
		{"4444444444444444", 0, 4}, {"4444444444444444", 14, 4}, {"4444444444444444", 15, -1}, {"4444444444444444", 16, -1},
		{"0|0|0|0|0|0|0|0", 6, 0}, {"0|0|0|0|0|0|0|0", 7, -1},
	}
	byText := shapesByText()
	for _, c := range cases {
		if got := impl.FaceLevel(meshWithText(t, c.text, byText), c.i); got != c.want {
			t.Errorf("FaceLevel of %q at %d is %d; want %d", c.text, c.i, got, c.want)
		}
	}
}

func TestFacesOfOneLeaf(t *testing.T) {
	m := impl.Mesh{Roots: 1, Leaves: []impl.Id{{}}}
	for _, n := range extremeCellNumbers() {
		if got := impl.FaceLevel(m, n); got != -1 {
			t.Errorf("FaceLevel of one leaf at %d is %d; want -1", n, got)
		}
		if got := impl.CountFaces(m, n); got != 0 {
			t.Errorf("CountFaces of one leaf at the level %d is %d; want 0", n, got)
		}
	}
	if !impl.IsBalanced(m) || impl.FirstUnbalanced(m) != -1 || !sameAsMesh(impl.Balance(m), m) {
		t.Errorf("one leaf is not balanced: %v", impl.Balance(m))
	}
}

func TestFirstUnbalanced(t *testing.T) {
	cases := map[string]int{
		"0": -1, "11": -1, "122": -1, "221": -1, "1233": -1, "3321": -1, "12344": -1, "44321": -1, "0|0": -1, "33333333": -1,
		"0|11": -1, "11|0": -1, "0|122": -1, "221|0": -1, "11|221": -1, "122|11": -1, "0|12344|4444444444444444|44321|0|0": -1,
		"1332": 0, "2331": 2, "13333": 0, "33331": 3, "144442": 0, "244441": 0, "223442": 4, "12443": 1, "34421": 2,
		"0|221": 0, "122|0": 2, "0|3321": 0, "1233|0": 3, "0|4444444444444444": 0, "4444444444444444|0": 15, "11|3321": 1, "1233|11": 3,
		"0|0|221": 1, "122|0|221": 2, "0|0|122|0|0": 4, "12443|34421": 1, "0|34421": 0, "0|0|0|0|0|0|0|221": 6, "122|0|0|0|0|0|0|0": 2,
	}
	byText := shapesByText()
	for text, want := range cases {
		m := meshWithText(t, text, byText)
		if got := impl.FirstUnbalanced(m); got != want {
			t.Errorf("FirstUnbalanced of %q is %d; want %d", text, got, want)
		}
		if got := impl.IsBalanced(m); got != (want < 0) {
			t.Errorf("IsBalanced of %q is %v", text, got)
		}
	}
}

func TestBalance(t *testing.T) {
	cases := []struct {
		name string
		text string
		want string
	}{
		{"one leaf", "0", "0"},
		{"levels that differ by 1, the coarser leaf on the left", "122|11", "122|11"},
		{"levels that differ by 1, the coarser leaf on the right", "11|221", "11|221"},
		{"levels that differ by 1 at a border", "0|11|0|122", "0|11|0|122"},
		{"one level after the other", "12344|44321", "12344|44321"},
		{"levels that differ by 2, the coarser leaf on the left", "1332", "22332"},
		{"levels that differ by 2, the coarser leaf on the right", "2331", "23322"},
		{"levels that differ by 2 at a border, the coarser leaf on the left", "0|221", "11|221"},
		{"levels that differ by 2 at a border, the coarser leaf on the right", "122|0", "122|11"},
		{"levels that differ by 3", "14432", "2334432"},
		{"levels that differ by 4, the coarser leaf on the left", "0|4444444444444444", "1233|4444444444444444"},
		{"levels that differ by 4, the coarser leaf on the right", "4444444444444444|0", "4444444444444444|3321"},
		{"a leaf between two finer ones", "122|0|221", "122|11|221"},
		{"a leaf between two much finer ones", "4444444444444444|0|4444444444444444", "4444444444444444|332233|4444444444444444"},
		{"a refinement that asks for another one on its left", "0|1332", "11|22332"},
		{"a refinement that asks for another one on its right", "2331|0", "23322|11"},
		{"a chain to the left", "0|12443", "11|2233443"},
		{"a chain to the right", "34421|0", "3443322|11"},
		{"chains to both sides", "0|12443|34421|0", "11|2233443|3443322|11"},
		{"a chain that ends in the next root", "0|0|12443|0|0", "0|11|2233443|221|0"},
		{"the last border", "0|0|0|0|0|0|0|4444444444444444", "0|0|0|0|0|0|1233|4444444444444444"},
	}
	byText := shapesByText()
	for _, c := range cases {
		got := impl.Balance(meshWithText(t, c.text, byText))
		if !sameAsMesh(got, meshWithText(t, c.want, byText)) {
			t.Errorf("%s: Balance of %q is %q, %v; want %q", c.name, c.text, impl.FormatMesh(got), got, c.want)
		}
	}
}

func TestBalanceInLongChannels(t *testing.T) {
	cases := map[string]string{
		"44321|0|0|0|0|0|0|0":   "44321|0|0|0|0|0|0|0",
		"12344|0|0|0|0|0|0|0":   "12344|3321|0|0|0|0|0|0",
		"0|0|0|0|0|0|0|44321":   "0|0|0|0|0|0|1233|44321",
		"0|0|0|12443|0|0|0|0":   "0|0|11|2233443|221|0|0|0",
		"0|34421|0|12443|0":     "122|3443322|11|2233443|221",
		"0|0|0|12344|0|0|0|0":   "0|0|0|12344|3321|0|0|0",
		"11|11|11|12344|11|11":  "11|11|11|12344|3321|11",
		"12344|44321|12344|0|0": "12344|44321|12344|3321|0",
	}
	byText := shapesByText()
	for text, want := range cases {
		if got := impl.FormatMesh(impl.Balance(meshWithText(t, text, byText))); got != want {
			t.Errorf("Balance of %q is %q; want %q", text, got, want)
		}
	}
}

// TestFacesOfKnownMeshes checks every function on every way to divide a root, in channels of all lengths.
func TestFacesOfKnownMeshes(t *testing.T) {
	byText := shapesByText()
	uneven := 0
	for _, k := range knownMeshes() {
		wantFaces(t, k.mesh, k.text)
		if textUneven(k.text) >= 0 {
			uneven++
		}
		want := balancedText(k.text)
		got := impl.Balance(k.mesh)
		if !sameAsMesh(got, meshWithText(t, want, byText)) {
			t.Errorf("Balance of %q is %q, %v; want %q", k.text, impl.FormatMesh(got), got, want)
		}
		wantFaces(t, got, want)
	}
	if uneven < 1000 {
		t.Errorf("only %d meshes are not balanced", uneven)
	}
}

// TestBalancedMeshesAreFinerAndNotDeeper states the promise itself.
func TestBalancedMeshesAreFinerAndNotDeeper(t *testing.T) {
	for _, k := range knownMeshes() {
		got := impl.Balance(k.mesh)
		if !impl.MeshOk(got) || !impl.IsBalanced(got) || impl.FirstUnbalanced(got) != -1 {
			t.Fatalf("Balance of %q is not a balanced mesh: %v", k.text, got)
		}
		if depth := impl.DeepestLevel(got); depth != k.depth || got.Roots != k.mesh.Roots {
			t.Errorf("Balance of %q has %d roots and the deepest level %d", k.text, got.Roots, depth)
		}
		for _, leaf := range got.Leaves {
			if old := k.mesh.Leaves[k.holder[impl.StartOf(leaf)]]; !impl.Contains(old, leaf) {
				t.Errorf("Balance of %q has the leaf %v, which is not within %v", k.text, leaf, old)
			}
		}
		for i := range len(got.Leaves) - 1 {
			if a, b := got.Leaves[i].Level, got.Leaves[i+1].Level; a > b+1 || b > a+1 {
				t.Errorf("Balance of %q has the levels %d and %d side by side", k.text, a, b)
			}
		}
		if again := impl.Balance(got); !sameAsMesh(again, got) {
			t.Errorf("Balance of the balanced mesh %q is %q", impl.FormatMesh(got), impl.FormatMesh(again))
		}
	}
}

// liesWithin reports whether each leaf of one mesh lies within a leaf of the other.
func liesWithin(finer impl.Mesh, coarser impl.Mesh) bool {
	for _, leaf := range finer.Leaves {
		if !slices.ContainsFunc(coarser.Leaves, func(x impl.Id) bool { return impl.Contains(x, leaf) }) {
			return false
		}
	}
	return true
}

// TestBalanceRefinesNoMoreThanItMust uses that each balanced mesh that is finer than a mesh is also finer than what Balance makes of it.
func TestBalanceRefinesNoMoreThanItMust(t *testing.T) {
	var meshes, balanced []impl.Mesh
	for _, shape := range rootShapes() {
		k := meshOfShapes(shape)
		meshes = append(meshes, k.mesh)
		if textUneven(k.text) < 0 {
			balanced = append(balanced, k.mesh)
		}
	}
	for _, m := range meshes {
		got := impl.Balance(m)
		for _, other := range balanced {
			if liesWithin(other, m) && !liesWithin(other, got) {
				t.Fatalf("Balance of %v is %q, but %q is balanced, too", m, impl.FormatMesh(got), impl.FormatMesh(other))
			}
		}
	}
}

func TestCountFaces(t *testing.T) {
	cases := []struct {
		text string
		want [5]int
	}{
		{"0", [5]int{}},
		{"0|0", [5]int{1}},
		{"0|0|0|0|0|0|0|0", [5]int{7}},
		{"11", [5]int{0, 1}},
		{"11|0", [5]int{0, 2}},
		{"0|11|0", [5]int{0, 3}},
		{"122|0", [5]int{0, 0, 3}},
		{"122|0|0", [5]int{1, 0, 3}},
		{"12344", [5]int{0, 0, 1, 1, 2}},
		{"1332", [5]int{0, 0, 0, 3}},
		{"0|0|11|34421", [5]int{1, 2, 1, 1, 3}},
		{"4444444444444444", [5]int{0, 0, 0, 0, 15}},
	}
	byText := shapesByText()
	for _, c := range cases {
		m := meshWithText(t, c.text, byText)
		for _, level := range append(extremeCellNumbers(), -5, -4, -3) {
			want := 0
			if level >= 0 && level <= 4 {
				want = c.want[level]
			}
			if got := impl.CountFaces(m, level); got != want {
				t.Errorf("CountFaces of %q at the level %d is %d; want %d", c.text, level, got, want)
			}
		}
	}
}

func TestFacesAtExtremeIndices(t *testing.T) {
	for _, m := range baseMeshes(t) {
		levels := textFaceLevels(impl.FormatMesh(m))
		for _, i := range append(extremeCellNumbers(), len(levels)-1, len(levels), len(levels)+1) {
			want := -1
			if i >= 0 && i < len(levels) {
				want = levels[i]
			}
			if got := impl.FaceLevel(m, i); got != want {
				t.Errorf("FaceLevel(%v, %d) = %d; want %d", m, i, got, want)
			}
		}
	}
}

func TestFacesOfInvalidMeshes(t *testing.T) {
	for _, m := range baseMeshes(t) {
		for spoilt := range spoiltMeshes(m) {
			wantNoFaces(t, spoilt)
		}
	}
	for _, roots := range extremeCellNumbers() {
		wantNoFaces(t, impl.Mesh{Roots: roots})
		wantNoFaces(t, impl.Mesh{Roots: roots, Leaves: []impl.Id{}})
	}
	for _, x := range invalidIds() {
		wantNoFaces(t, impl.Mesh{Roots: 1, Leaves: []impl.Id{x}})
		wantNoFaces(t, impl.Mesh{Roots: 2, Leaves: []impl.Id{{}, x}})
		wantNoFaces(t, impl.Mesh{Roots: 2, Leaves: []impl.Id{x, {Root: 1}}})
		wantNoFaces(t, impl.Mesh{Roots: 8, Leaves: slices.Repeat([]impl.Id{x, {}}, 50000)})
	}
}

// TestUnbalancedMeshesThatAreNotValid has pairs whose levels differ by more than 1, which no function may see.
func TestUnbalancedMeshesThatAreNotValid(t *testing.T) {
	deep := func(root int, index int) impl.Id { return impl.Id{Root: root, Level: 2, Index: index} }
	meshes := []impl.Mesh{
		{Roots: 1, Leaves: []impl.Id{{}, deep(1, 0), deep(1, 1), {Root: 1, Level: 1, Index: 1}}},
		{Roots: 3, Leaves: []impl.Id{{}, deep(1, 0), deep(1, 1), {Root: 1, Level: 1, Index: 1}}},
		{Roots: 2, Leaves: []impl.Id{{}, deep(1, 0), {Root: 1, Level: 1, Index: 1}}},
		{Roots: 2, Leaves: []impl.Id{{}, deep(1, 0), deep(1, 0), deep(1, 1), {Root: 1, Level: 1, Index: 1}}},
		{Roots: 2, Leaves: []impl.Id{{}, deep(1, 1), deep(1, 0), {Root: 1, Level: 1, Index: 1}}},
		{Roots: 0, Leaves: []impl.Id{{}, deep(0, 0)}},
		{Roots: -1, Leaves: []impl.Id{deep(0, 3), {Root: 1}}},
		{Roots: 9, Leaves: []impl.Id{deep(0, 3), {Root: 1}}},
		{Roots: 1, Leaves: []impl.Id{{Level: math.MinInt}, {Level: math.MaxInt}}},
		{Roots: 1, Leaves: []impl.Id{{Level: math.MaxInt}, {Level: math.MinInt}}},
	}
	for _, m := range meshes {
		wantNoFaces(t, m)
	}
}

func TestBalanceReturnsNewMemory(t *testing.T) {
	byText := shapesByText()
	meshes := append(baseMeshes(t), meshWithText(t, "0|12443", byText), impl.Mesh{Roots: 9, Leaves: []impl.Id{{}, {Root: 3}}}, impl.Mesh{Leaves: []impl.Id{{Level: 7}}})
	for _, m := range meshes {
		spare := slices.Concat(m.Leaves, slices.Repeat([]impl.Id{{Root: 77}}, 60))
		given := impl.Mesh{Roots: m.Roots, Leaves: spare[:len(m.Leaves)]}
		before := slices.Clone(spare)
		got := impl.Balance(given)
		want := slices.Clone(got.Leaves)
		full := got.Leaves[:cap(got.Leaves)]
		for i := range full {
			full[i] = impl.Id{Root: 55}
		}
		if given.Roots != m.Roots || !slices.Equal(spare, before) {
			t.Errorf("Balance of %v shares memory with it, or changes it: %v", m, spare)
		}
		if again := impl.Balance(given); !slices.Equal(again.Leaves, want) {
			t.Errorf("Balance of %v is %v after a change of an earlier result; want %v", m, again.Leaves, want)
		}
	}
}

func TestFacesDoNotChangeTheMesh(t *testing.T) {
	for _, m := range baseMeshes(t) {
		spare := slices.Concat(m.Leaves, slices.Repeat([]impl.Id{{Root: 77}}, 5))
		given := impl.Mesh{Roots: m.Roots, Leaves: spare[:len(m.Leaves)]}
		before := slices.Clone(spare)
		impl.FaceLevel(given, 0)
		impl.IsBalanced(given)
		impl.FirstUnbalanced(given)
		impl.CountFaces(given, 2)
		if given.Roots != m.Roots || !slices.Equal(spare, before) {
			t.Errorf("the mesh %v has been changed: %v", before, spare)
		}
	}
}
