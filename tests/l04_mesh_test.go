package tests

import (
	"iter"
	"math"
	"slices"
	"strings"
	"testing"

	"loop.example/g00982/impl"
)

// A rootShape is one way to divide a root: its leaves, as cells of the root 0, and their levels as a text.
type rootShape struct {
	text   string
	leaves []knownCell
}

// rootShapes returns all 677 ways to divide a root, found by dividing cells or not, without regard to positions.
func rootShapes() []rootShape {
	halves := map[impl.Id][]knownCell{}
	var root knownCell
	for _, c := range allCells() {
		if c.side >= 0 {
			halves[c.parent] = append(halves[c.parent], c)
		} else if c.id.Root == 0 {
			root = c
		}
	}
	return shapesWithin(root, halves)
}

func shapesWithin(c knownCell, halves map[impl.Id][]knownCell) []rootShape {
	shapes := []rootShape{{text: string("01234"[c.id.Level]), leaves: []knownCell{c}}}
	if c.id.Level == 4 {
		return shapes
	}
	rights := shapesWithin(halves[c.id][1], halves)
	for _, left := range shapesWithin(halves[c.id][0], halves) {
		for _, right := range rights {
			shapes = append(shapes, rootShape{text: left.text + right.text, leaves: slices.Concat(left.leaves, right.leaves)})
		}
	}
	return shapes
}

// A knownMesh is a mesh put together from shapes, with its text and the index of the leaf of each position.
type knownMesh struct {
	mesh   impl.Mesh
	text   string
	holder []int
	depth  int
}

func meshOfShapes(shapes ...rootShape) knownMesh {
	k := knownMesh{mesh: impl.Mesh{Roots: len(shapes)}}
	var texts []string
	for root, shape := range shapes {
		texts = append(texts, shape.text)
		for _, c := range shape.leaves {
			for range c.end - c.start {
				k.holder = append(k.holder, len(k.mesh.Leaves))
			}
			k.mesh.Leaves = append(k.mesh.Leaves, impl.Id{Root: root, Level: c.id.Level, Index: c.id.Index})
			k.depth = max(k.depth, c.id.Level)
		}
	}
	k.text = strings.Join(texts, "|")
	return k
}

// knownMeshes returns each shape as a channel of one root, and channels of 2 to 8 roots of mixed shapes, in which each shape is in each root.
func knownMeshes() []knownMesh {
	shapes := rootShapes()
	var meshes []knownMesh
	for i, shape := range shapes {
		meshes = append(meshes, meshOfShapes(shape))
		var mixed []rootShape
		for root := range 2 + i%7 {
			mixed = append(mixed, shapes[(i+101*root)%len(shapes)])
		}
		for range 8 - len(mixed) {
			meshes = append(meshes, meshOfShapes(mixed...))
			mixed = append(mixed, shapes[(7*i+13*len(mixed))%len(shapes)])
		}
		meshes = append(meshes, meshOfShapes(mixed...))
	}
	return meshes
}

// shapesByText is the oracle of ParseMesh: a text is that of a mesh if each of its 1 to 8 parts is that of a shape.
func shapesByText() map[string]rootShape {
	byText := map[string]rootShape{}
	for _, shape := range rootShapes() {
		byText[shape.text] = shape
	}
	return byText
}

func meshOfText(text string, byText map[string]rootShape) (impl.Mesh, bool) {
	var shapes []rootShape
	for _, part := range strings.Split(text, "|") {
		shape, ok := byText[part]
		if !ok || len(shapes) == 8 {
			return impl.Mesh{}, false
		}
		shapes = append(shapes, shape)
	}
	return meshOfShapes(shapes...).mesh, true
}

// meshWithText is meshOfText for a text that is known to be one of a mesh.
func meshWithText(t *testing.T, text string, byText map[string]rootShape) impl.Mesh {
	t.Helper()
	m, ok := meshOfText(text, byText)
	if !ok {
		t.Fatalf("%q is not the text of a mesh", text)
	}
	return m
}

// baseMeshes returns meshes that are known to be valid, to be spoilt by tests.
func baseMeshes(t *testing.T) []impl.Mesh {
	t.Helper()
	byText := shapesByText()
	var meshes []impl.Mesh
	for _, text := range []string{"0", "11", "122", "0|0", "122|0", "0|221|11", "2222|0|12344", "0|0|0|0|0|0|0|0", "11|0|122|221|0|11|0|34421", "4444444444444444"} {
		meshes = append(meshes, meshWithText(t, text, byText))
	}
	return meshes
}

// positionsToAsk holds all positions of the longest channel, those around it, and extreme ones, among them some that wrap around to a position of the channel.
func positionsToAsk() []int {
	positions := []int{
		math.MinInt, math.MinInt + 1, math.MinInt + 16, -1 << 62, -1 << 32, -1<<32 + 1, -1000, -128, -127,
		1000, 1 << 32, 1<<32 + 1, 1 << 60, 1 << 62, math.MaxInt - 16, math.MaxInt - 1, math.MaxInt,
	}
	for pos := -20; pos < 160; pos++ {
		positions = append(positions, pos)
	}
	return positions
}

func sameAsMesh(a impl.Mesh, b impl.Mesh) bool {
	return a.Roots == b.Roots && slices.Equal(a.Leaves, b.Leaves)
}

// wantNoMesh checks what each function says of a mesh that is not valid.
func wantNoMesh(t *testing.T, m impl.Mesh) {
	t.Helper()
	if impl.MeshOk(m) {
		t.Errorf("MeshOk(%v) = true", m)
	}
	if got := impl.DeepestLevel(m); got != -1 {
		t.Errorf("DeepestLevel(%v) = %d; want -1", m, got)
	}
	if got := impl.FormatMesh(m); got != "" {
		t.Errorf("FormatMesh(%v) = %q; want \"\"", m, got)
	}
	for _, pos := range []int{-1, 0, 1, 8, 15, 16, 17, 31, 32, 100, 127, 128, math.MinInt, math.MaxInt} {
		if got := impl.LeafAt(m, pos); got != -1 {
			t.Errorf("LeafAt(%v, %d) = %d; want -1", m, pos, got)
		}
	}
}

func TestLimitsOfMeshes(t *testing.T) {
	if impl.MaxLeaves != 128 {
		t.Errorf("MaxLeaves is %d; want 128", impl.MaxLeaves)
	}
	if m, ok := impl.MeshNew(8, 4); len(m.Leaves) != impl.MaxLeaves || !ok {
		t.Errorf("the finest mesh has %d leaves; want MaxLeaves", len(m.Leaves))
	}
}

func TestMeshNew(t *testing.T) {
	for roots := 1; roots <= 8; roots++ {
		for level := 0; level <= 4; level++ {
			want := impl.Mesh{Roots: roots}
			for _, c := range allCells() {
				if c.id.Root < roots && c.id.Level == level {
					want.Leaves = append(want.Leaves, c.id)
				}
			}
			got, ok := impl.MeshNew(roots, level)
			if !sameAsMesh(got, want) || !ok {
				t.Errorf("MeshNew(%d, %d) = %v, %v; want %v, true", roots, level, got, ok, want)
			}
			if !impl.MeshOk(got) || impl.DeepestLevel(got) != level {
				t.Errorf("MeshNew(%d, %d) is not valid, or its deepest level is %d", roots, level, impl.DeepestLevel(got))
			}
			part := strings.Repeat(string("01234"[level]), 1<<level)
			if text := strings.Repeat("|"+part, roots)[1:]; impl.FormatMesh(got) != text {
				t.Errorf("MeshNew(%d, %d) has the text %q; want %q", roots, level, impl.FormatMesh(got), text)
			}
		}
	}
}

func TestMeshNewOutOfRange(t *testing.T) {
	for _, roots := range extremeCellNumbers() {
		for _, level := range extremeCellNumbers() {
			got, ok := impl.MeshNew(roots, level)
			want := 1 <= roots && roots <= 8 && 0 <= level && level <= 4
			if ok != want || !want && !sameAsMesh(got, impl.Mesh{}) {
				t.Errorf("MeshNew(%d, %d) = %v, %v", roots, level, got, ok)
			}
		}
	}
	for _, c := range [][2]int{{0, 0}, {-1, 0}, {9, 0}, {0, 4}, {9, 4}, {1, -1}, {1, 5}, {8, 5}, {8, -1}, {0, -1}, {9, 5}} {
		if got, ok := impl.MeshNew(c[0], c[1]); !sameAsMesh(got, impl.Mesh{}) || ok {
			t.Errorf("MeshNew(%d, %d) = %v, %v; want the zero Mesh, false", c[0], c[1], got, ok)
		}
	}
}

// TestKnownMeshes checks every function on every way to divide a root, in channels of all lengths.
func TestKnownMeshes(t *testing.T) {
	if n := len(rootShapes()); n != 677 {
		t.Fatalf("there are %d shapes of a root; want 677", n)
	}
	for _, k := range knownMeshes() {
		if !impl.MeshOk(k.mesh) {
			t.Fatalf("MeshOk is false for %q", k.text)
		}
		if got := impl.DeepestLevel(k.mesh); got != k.depth {
			t.Errorf("DeepestLevel of %q is %d; want %d", k.text, got, k.depth)
		}
		if got := impl.FormatMesh(k.mesh); got != k.text {
			t.Errorf("FormatMesh of %q is %q", k.text, got)
		}
		if got, ok := impl.ParseMesh(k.text); !sameAsMesh(got, k.mesh) || !ok {
			t.Errorf("ParseMesh(%q) = %v, %v; want %v, true", k.text, got, ok, k.mesh)
		}
	}
}

func TestLeafAt(t *testing.T) {
	positions := positionsToAsk()
	for i, k := range knownMeshes() {
		if k.mesh.Roots > 1 && i%5 != 0 {
			continue
		}
		for _, pos := range positions {
			want := -1
			if pos >= 0 && pos < len(k.holder) {
				want = k.holder[pos]
			}
			if got := impl.LeafAt(k.mesh, pos); got != want {
				t.Errorf("LeafAt of %q at %d is %d; want %d", k.text, pos, got, want)
			}
		}
	}
}

func TestLeafAtTheEndsOfLeaves(t *testing.T) {
	cases := []struct {
		text string
		pos  int
		want int
	}{
		{"122|0", -1, -1}, {"122|0", 0, 0}, {"122|0", 7, 0}, {"122|0", 8, 1}, {"122|0", 11, 1}, {"122|0", 12, 2},
		{"122|0", 15, 2}, {"122|0", 16, 3}, {"122|0", 31, 3}, {"122|0", 32, -1}, {"122|0", 33, -1},
		{"0", 0, 0}, {"0", 15, 0}, {"0", 16, -1}, {"0", -1, -1}, {"0", -16, -1},
		{"0|0|0|0|0|0|0|0", 127, 7}, {"0|0|0|0|0|0|0|0", 128, -1}, {"0|0|0|0|0|0|0|0", 112, 7}, {"0|0|0|0|0|0|0|0", 111, 6},
		{"4444444444444444", 15, 15}, {"4444444444444444", 0, 0}, {"4444444444444444", 16, -1},
	}
	byText := shapesByText()
	for _, c := range cases {
		m, _ := meshOfText(c.text, byText)
		if got := impl.LeafAt(m, c.pos); got != c.want {
			t.Errorf("LeafAt of %q at %d is %d; want %d", c.text, c.pos, got, c.want)
		}
	}
}

// TestEveryPositionIsInOneLeaf states the promise itself, with the leaves that MeshNew and ParseMesh return.
func TestEveryPositionIsInOneLeaf(t *testing.T) {
	var meshes []impl.Mesh
	for roots := 1; roots <= 8; roots++ {
		for level := 0; level <= 4; level++ {
			m, _ := impl.MeshNew(roots, level)
			meshes = append(meshes, m)
		}
	}
	for _, k := range knownMeshes()[:500] {
		m, _ := impl.ParseMesh(k.text)
		meshes = append(meshes, m)
	}
	for _, m := range meshes {
		for pos := -40; pos < 180; pos++ {
			holders := []int{}
			for i, leaf := range m.Leaves {
				if start := impl.StartOf(leaf); start <= pos && pos < start+impl.WidthOf(leaf.Level) {
					holders = append(holders, i)
				}
			}
			if inside := 0 <= pos && pos < 16*m.Roots; inside && len(holders) != 1 || !inside && len(holders) != 0 {
				t.Fatalf("the position %d of %v is in the leaves %v", pos, m, holders)
			}
			if got := impl.LeafAt(m, pos); len(holders) == 0 && got != -1 || len(holders) == 1 && got != holders[0] {
				t.Errorf("LeafAt(%v, %d) = %d; the leaves are %v", m, pos, got, holders)
			}
		}
	}
}

func TestLeafOf(t *testing.T) {
	others := invalidIds()
	for _, c := range allCells() {
		others = append(others, c.id)
	}
	for _, m := range baseMeshes(t) {
		for _, x := range others {
			want := -1
			for i, leaf := range m.Leaves {
				if leaf == x {
					want = i
				}
			}
			if got := impl.LeafOf(m, x); got != want {
				t.Errorf("LeafOf(%v, %v) = %d; want %d", m, x, got, want)
			}
		}
	}
}

// TestLeafOfInvalidMeshes checks that neither the mesh nor the cell needs to be valid: the document does not ask for it.
func TestLeafOfInvalidMeshes(t *testing.T) {
	odd := impl.Id{Root: -3, Level: 9, Index: math.MaxInt}
	leaf := impl.Id{Root: 1, Level: 1, Index: 1}
	cases := []struct {
		m    impl.Mesh
		x    impl.Id
		want int
	}{
		{impl.Mesh{}, impl.Id{}, -1},
		{impl.Mesh{Roots: 1}, impl.Id{}, -1},
		{impl.Mesh{Roots: 1, Leaves: []impl.Id{}}, impl.Id{}, -1},
		{impl.Mesh{Leaves: []impl.Id{{}}}, impl.Id{}, 0},
		{impl.Mesh{Roots: -5, Leaves: []impl.Id{{Root: 3}, leaf}}, leaf, 1},
		{impl.Mesh{Roots: 1, Leaves: []impl.Id{odd}}, odd, 0},
		{impl.Mesh{Roots: 2, Leaves: []impl.Id{{}, odd, {}}}, odd, 1},
		{impl.Mesh{Roots: 1, Leaves: []impl.Id{{Root: 2}, leaf, leaf, leaf}}, leaf, 1},
		{impl.Mesh{Roots: 1, Leaves: []impl.Id{{Root: 1, Level: 1}}}, leaf, -1},
		{impl.Mesh{Roots: 1, Leaves: []impl.Id{{Root: 1, Index: 1}}}, leaf, -1},
		{impl.Mesh{Roots: 1, Leaves: []impl.Id{{Level: 1, Index: 1}}}, leaf, -1},
	}
	for _, c := range cases {
		if got := impl.LeafOf(c.m, c.x); got != c.want {
			t.Errorf("LeafOf(%v, %v) = %d; want %d", c.m, c.x, got, c.want)
		}
	}
}

// coversOnce is the oracle of MeshOk: the leaves are valid, ascend, and each position is covered exactly once.
func coversOnce(m impl.Mesh, known map[impl.Id]knownCell) bool {
	if m.Roots < 1 || m.Roots > 8 {
		return false
	}
	var covered [128]int
	last := -1
	for _, x := range m.Leaves {
		c, ok := known[x]
		if !ok || c.start <= last {
			return false
		}
		last = c.start
		for pos := c.start; pos < c.end; pos++ {
			covered[pos]++
		}
	}
	for pos, count := range covered {
		if inside := pos < 16*m.Roots; inside && count != 1 || !inside && count != 0 {
			return false
		}
	}
	return true
}

// TestMeshOkOfAllShortLists checks all lists of at most four leaves out of some cells of two roots and some invalid ones.
func TestMeshOkOfAllShortLists(t *testing.T) {
	known := map[impl.Id]knownCell{}
	var cells []impl.Id
	for _, c := range allCells() {
		known[c.id] = c
		if c.id.Level <= 1 && c.id.Root <= 2 || c.id.Level == 2 && c.id.Root <= 1 {
			cells = append(cells, c.id)
		}
	}
	cells = append(cells, impl.Id{Index: 1}, impl.Id{Level: 1, Index: 2}, impl.Id{Level: 5})
	lists := [][]impl.Id{{}}
	count := 0
	for begin := 0; begin < len(lists); begin++ {
		for roots := -1; roots <= 3; roots++ {
			m := impl.Mesh{Roots: roots, Leaves: lists[begin]}
			want := coversOnce(m, known)
			if got := impl.MeshOk(m); got != want {
				t.Fatalf("MeshOk(%v) = %v", m, got)
			}
			if want {
				count++
			}
		}
		for _, x := range cells {
			if len(lists[begin]) < 4 {
				lists = append(lists, append(slices.Clone(lists[begin]), x))
			}
		}
	}
	if count < 15 {
		t.Errorf("only %d lists are meshes", count)
	}
}

// spoiltLists produces the leaves of a valid mesh with one leaf changed, added or removed, with two exchanged, and with all twice: never those of a valid mesh.
func spoiltLists(leaves []impl.Id) iter.Seq[[]impl.Id] {
	others := invalidIds()
	for _, c := range allCells() {
		others = append(others, c.id)
	}
	return func(yield func([]impl.Id) bool) {
		more := yield(slices.Concat(leaves, leaves))
		for i := range len(leaves) {
			more = more && yield(slices.Delete(slices.Clone(leaves), i, i+1)) && yield(leaves[:i])
			for j := range i {
				spoilt := slices.Clone(leaves)
				spoilt[i], spoilt[j] = spoilt[j], spoilt[i]
				more = more && yield(spoilt)
			}
		}
		for i := range len(leaves) + 1 {
			for _, x := range others {
				more = more && yield(slices.Insert(slices.Clone(leaves), i, x))
				if i < len(leaves) && x != leaves[i] {
					spoilt := slices.Clone(leaves)
					spoilt[i] = x
					more = more && yield(spoilt)
				}
			}
		}
	}
}

// spoiltMeshes produces meshes that are not valid: a valid one with its leaves spoilt, or with another number of roots.
func spoiltMeshes(m impl.Mesh) iter.Seq[impl.Mesh] {
	return func(yield func(impl.Mesh) bool) {
		for leaves := range spoiltLists(m.Leaves) {
			if !yield(impl.Mesh{Roots: m.Roots, Leaves: leaves}) {
				return
			}
		}
		for _, roots := range append(extremeCellNumbers(), 9, 10, 17, 256+m.Roots) {
			if roots != m.Roots && !yield(impl.Mesh{Roots: roots, Leaves: m.Leaves}) {
				return
			}
		}
	}
}

func TestSpoiltMeshes(t *testing.T) {
	for _, m := range baseMeshes(t) {
		for spoilt := range spoiltMeshes(m) {
			wantNoMesh(t, spoilt)
		}
	}
}

func TestMeshesWithoutLeaves(t *testing.T) {
	for _, roots := range extremeCellNumbers() {
		wantNoMesh(t, impl.Mesh{Roots: roots})
		wantNoMesh(t, impl.Mesh{Roots: roots, Leaves: []impl.Id{}})
	}
}

// TestBordersBetweenRoots checks lists whose positions are right in one respect, but not the roots.
func TestBordersBetweenRoots(t *testing.T) {
	left := func(root int) impl.Id { return impl.Id{Root: root, Level: 1} }
	right := func(root int) impl.Id { return impl.Id{Root: root, Level: 1, Index: 1} }
	cases := []struct {
		name string
		m    impl.Mesh
		want bool
	}{
		{"two roots", impl.Mesh{Roots: 2, Leaves: []impl.Id{{}, {Root: 1}}}, true},
		{"two divided roots", impl.Mesh{Roots: 2, Leaves: []impl.Id{left(0), right(0), left(1), right(1)}}, true},
		{"a root twice", impl.Mesh{Roots: 2, Leaves: []impl.Id{{}, {}}}, false},
		{"roots in the wrong order", impl.Mesh{Roots: 2, Leaves: []impl.Id{{Root: 1}, {}}}, false},
		{"a root left out", impl.Mesh{Roots: 3, Leaves: []impl.Id{{}, {Root: 2}}}, false},
		{"a root left out, and not counted", impl.Mesh{Roots: 2, Leaves: []impl.Id{{}, {Root: 2}}}, false},
		{"the first root missing", impl.Mesh{Roots: 2, Leaves: []impl.Id{{Root: 1}}}, false},
		{"the first root missing, and not counted", impl.Mesh{Roots: 1, Leaves: []impl.Id{{Root: 1}}}, false},
		{"the last root missing", impl.Mesh{Roots: 2, Leaves: []impl.Id{{}}}, false},
		{"a root that the mesh doesn't have", impl.Mesh{Roots: 1, Leaves: []impl.Id{{}, {Root: 1}}}, false},
		{"the right half of a root missing", impl.Mesh{Roots: 2, Leaves: []impl.Id{left(0), {Root: 1}}}, false},
		{"the left half of a root missing", impl.Mesh{Roots: 2, Leaves: []impl.Id{{}, right(1)}}, false},
		{"halves on both sides of a border", impl.Mesh{Roots: 2, Leaves: []impl.Id{left(0), left(1), right(0), right(1)}}, false},
		{"halves of different roots", impl.Mesh{Roots: 1, Leaves: []impl.Id{left(0), right(1)}}, false},
		{"an index past the end of its root", impl.Mesh{Roots: 2, Leaves: []impl.Id{{}, {Index: 1}}}, false},
		{"halves past the end of their root", impl.Mesh{Roots: 2, Leaves: []impl.Id{left(0), right(0), {Level: 1, Index: 2}, {Level: 1, Index: 3}}}, false},
		{"a negative index of the next root", impl.Mesh{Roots: 2, Leaves: []impl.Id{{Root: 1, Index: -1}, {Root: 1}}}, false},
		{"a root before the channel", impl.Mesh{Roots: 1, Leaves: []impl.Id{{Root: -1, Index: 1}}}, false},
		{"a cell as wide as two roots", impl.Mesh{Roots: 2, Leaves: []impl.Id{{Level: -1}}}, false},
		{"nine roots", impl.Mesh{Roots: 9, Leaves: []impl.Id{{}, {Root: 1}, {Root: 2}, {Root: 3}, {Root: 4}, {Root: 5}, {Root: 6}, {Root: 7}, {Root: 8}}}, false},
		{"no roots", impl.Mesh{Leaves: []impl.Id{{}}}, false},
	}
	for _, c := range cases {
		if got := impl.MeshOk(c.m); got != c.want {
			t.Errorf("%s: MeshOk(%v) = %v", c.name, c.m, got)
		}
		if !c.want {
			wantNoMesh(t, c.m)
		}
	}
}

func TestVeryLongMeshes(t *testing.T) {
	m, _ := impl.MeshNew(8, 4)
	for _, leaf := range []impl.Id{{}, {Root: 7, Level: 4, Index: 15}, {Root: 8}, {Level: 5}, {Level: -1}} {
		wantNoMesh(t, impl.Mesh{Roots: 8, Leaves: append(slices.Clone(m.Leaves), leaf)})
		many := slices.Repeat([]impl.Id{leaf}, 100000)
		wantNoMesh(t, impl.Mesh{Roots: 8, Leaves: many})
		wantNoMesh(t, impl.Mesh{Roots: 1, Leaves: many})
		wantNoMesh(t, impl.Mesh{Roots: 8, Leaves: append(slices.Clone(m.Leaves), many...)})
	}
}

func TestDeepestLevel(t *testing.T) {
	cases := map[string]int{"0": 0, "11": 1, "122": 2, "122|0": 2, "0|122": 2, "0|11|0": 1, "44321": 4, "14432": 4, "12344": 4, "0|0|0|0|0|0|0|44321": 4, "33333333": 3}
	byText := shapesByText()
	for text, want := range cases {
		m, _ := meshOfText(text, byText)
		if got := impl.DeepestLevel(m); got != want {
			t.Errorf("DeepestLevel of %q is %d; want %d", text, got, want)
		}
	}
}

func wantParse(t *testing.T, text string, byText map[string]rootShape) {
	t.Helper()
	want, valid := meshOfText(text, byText)
	got, ok := impl.ParseMesh(text)
	if ok != valid || !sameAsMesh(got, want) {
		t.Fatalf("ParseMesh(%q) = %v, %v; want %v, %v", text, got, ok, want, valid)
	}
	if valid && (!impl.MeshOk(got) || impl.FormatMesh(got) != text) {
		t.Fatalf("ParseMesh(%q) is not valid or has the text %q", text, impl.FormatMesh(got))
	}
}

// TestParseMeshOfAllShortTexts checks all texts of at most seven of the digits, the separator and a digit that is no level.
func TestParseMeshOfAllShortTexts(t *testing.T) {
	byText := shapesByText()
	texts := []string{""}
	for range 7 {
		longer := make([]string, 0, 7*len(texts))
		for _, text := range texts {
			wantParse(t, text, byText)
			for _, b := range []string{"0", "1", "2", "3", "4", "5", "|"} {
				longer = append(longer, text+b)
			}
		}
		texts = longer
	}
	for _, text := range texts {
		wantParse(t, text, byText)
	}
}

// TestParseMeshOfEditedTexts checks texts of meshes with one byte removed, added or replaced, by every byte.
func TestParseMeshOfEditedTexts(t *testing.T) {
	byText := shapesByText()
	for _, text := range []string{"0", "11", "122|0", "0|221|11", "12344|0|2222", "0|0|0|0|0|0|0|0", "11|0|122|221|0|11|34421", "4444444444444444|4444444444444444"} {
		wantParse(t, text, byText)
		for i := range len(text) + 1 {
			for b := range 256 {
				added := text[:i] + string([]byte{byte(b)})
				wantParse(t, added+text[i:], byText)
				if i < len(text) {
					wantParse(t, added+text[i+1:], byText)
				}
			}
			if i < len(text) {
				wantParse(t, text[:i]+text[i+1:], byText)
				wantParse(t, text[:i], byText)
				wantParse(t, text[i:], byText)
			}
		}
	}
}

func TestParseMeshRejects(t *testing.T) {
	texts := []string{
		"", "|", "||", "0|", "|0", "0||0", "|0|0", "0|0|", "11|", "|11", "1|1", "1", "12", "1|0", "0|1", "0|12",
		"00", "111", "0|00", "1122", "112", "0|111", "01", "10", "110", "2112", "212", "221|2", "22|1", "3", "4444", "444444444444444", "44444444444444444",
		"5", "55", "6", "7", "8", "9", "1155", "05", "50", "a", "A", "x", "/", ":", "-0", "+0", " 0", "0 ", "0\n", "\n0", "0\x00", "\x00", "\x00\x00", "1 1", "1,1", "1/1", "0;0", "0|a", "0 | 0", "0¦0", "0\\0",
		"\u0660", "\uff10", "\uff11\uff11", "\xff", "\xb0", "\xb1\xb1", "0\xff", "\u00bd",
		"0|0|0|0|0|0|0|0|0", "0|0|0|0|0|0|0|0|", "|0|0|0|0|0|0|0|0", "00000000", "0000000000000000",
	}
	for _, text := range texts {
		if m, ok := impl.ParseMesh(text); !sameAsMesh(m, impl.Mesh{}) || ok {
			t.Errorf("ParseMesh(%q) = %v, %v; want the zero Mesh, false", text, m, ok)
		}
	}
}

func TestParseMeshOfLongTexts(t *testing.T) {
	longest := strings.Repeat("|4444444444444444", 8)[1:]
	if len(longest) != 135 {
		t.Fatalf("the longest text has %d bytes", len(longest))
	}
	if m, ok := impl.ParseMesh(longest); len(m.Leaves) != 128 || m.Roots != 8 || !ok {
		t.Errorf("the longest text has %d roots, %d leaves, %v", m.Roots, len(m.Leaves), ok)
	}
	texts := []string{strings.Repeat("|4444444444444444", 9)[1:]}
	for _, b := range []string{"0", "1", "4", "5", "|", " ", "\x00", "\xff", "0|", "11|", "|0", "4444444444444444|"} {
		texts = append(texts, longest+b, b+longest, strings.Repeat(b, 200), strings.Repeat(b, 20001), strings.Repeat(b, 1<<20))
		texts = append(texts, "0"+strings.Repeat(b, 1<<20), "0|0"+strings.Repeat(b, 300), longest+strings.Repeat(b, 1<<20))
	}
	for _, text := range texts {
		if m, ok := impl.ParseMesh(text); !sameAsMesh(m, impl.Mesh{}) || ok {
			t.Errorf("ParseMesh of %d bytes beginning with %q is %v, %v", len(text), text[:8], m, ok)
		}
	}
}

func TestMeshesShareNoMemory(t *testing.T) {
	for range 2 {
		m, _ := impl.MeshNew(2, 1)
		p, _ := impl.ParseMesh("122|0")
		if m.Leaves[0] != (impl.Id{Level: 1}) || p.Leaves[3] != (impl.Id{Root: 1}) {
			t.Errorf("a change of an earlier result shows: %v, %v", m, p)
		}
		m.Leaves[0], p.Leaves[3] = impl.Id{Root: 5}, impl.Id{Root: 5}
		_, _ = append(m.Leaves, impl.Id{Root: 6}), append(p.Leaves, impl.Id{Root: 6})
	}
}

func TestMeshesAreNotChanged(t *testing.T) {
	for _, m := range baseMeshes(t) {
		spare := slices.Concat(m.Leaves, slices.Repeat([]impl.Id{{Root: 77}}, 5))
		given := impl.Mesh{Roots: m.Roots, Leaves: spare[:len(m.Leaves)]}
		before := slices.Clone(spare)
		impl.MeshOk(given)
		impl.LeafAt(given, 5)
		impl.LeafOf(given, impl.Id{Root: 77})
		impl.DeepestLevel(given)
		impl.FormatMesh(given)
		if given.Roots != m.Roots || !slices.Equal(spare, before) {
			t.Errorf("the mesh %v has been changed: %v", before, spare)
		}
	}
}
