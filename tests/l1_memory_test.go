package tests

import (
	"testing"

	"loop.example/reliefmaps/impl"
)

func gridCalls() []gridCall {
	return []gridCall{
		{"GridSet", func(g [][]int) ([][]int, bool) { return impl.GridSet(g, len(g)-1, 0, 50) }},
		{"GridSet of the same height", func(g [][]int) ([][]int, bool) { return impl.GridSet(g, 0, 0, g[0][0]) }},
		{"GridTurn", impl.GridTurn},
		{"GridMirror", impl.GridMirror},
		{"GridRaise by 0", func(g [][]int) ([][]int, bool) { return impl.GridRaise(g, 0) }},
		{"GridRaise by 1", func(g [][]int) ([][]int, bool) { return impl.GridRaise(g, 1) }},
		{"GridInvert", impl.GridInvert},
		{"GridPart of the whole", func(g [][]int) ([][]int, bool) { return impl.GridPart(g, 0, len(g)-1, 0, len(g[0])-1) }},
		{"GridPart of the last row", func(g [][]int) ([][]int, bool) { return impl.GridPart(g, len(g)-1, len(g)-1, 0, len(g[0])-1) }},
		{"GridBeside of itself", func(g [][]int) ([][]int, bool) { return impl.GridBeside(g, g) }},
		{"GridBelow of itself", func(g [][]int) ([][]int, bool) { return impl.GridBelow(g, g) }},
		{"GridFrom", func(g [][]int) ([][]int, bool) { return impl.GridFrom(impl.GridText(g)) }},
	}
}

// Promises 1 to 12: no argument changes, and results share no memory with arguments, with each other or with later results.
func TestGridMemory(t *testing.T) {
	for _, call := range gridCalls() {
		for _, g := range sampleGrids() {
			checkGridMemory(t, call, g)
		}
	}
}

// Promises 8 and 9: with two arguments.
func TestGridMemoryOfTwo(t *testing.T) {
	for _, run := range []func(a, b [][]int) ([][]int, bool){impl.GridBeside, impl.GridBelow} {
		for _, a := range mixedGrids() {
			for _, b := range mixedGrids() {
				x, y := roomy(a), roomy(b)
				got, ok := run(x, y)
				if ok && !scribble(got) {
					t.Fatalf("rows of the result of %v and %v share memory", a, b)
				}
				if !roomyStays(x, a) || !roomyStays(y, b) {
					t.Fatalf("an argument changed: %v, %v", a, b)
				}
			}
		}
	}
}

// Promises 1, 10 and 11: what returns no grid leaves its argument alone, too.
func TestGridReadersChangeNothing(t *testing.T) {
	for _, g := range sampleGrids() {
		x := roomy(g)
		impl.GridValid(x)
		impl.GridAt(x, 0, 0)
		impl.GridRange(x)
		impl.GridText(x)
		if !roomyStays(x, g) {
			t.Fatalf("an argument changed: %v", g)
		}
	}
}

// Promise 2: rows of an argument may be one slice, those of the result are not.
func TestGridRowsThatAreOne(t *testing.T) {
	row := []int{1, 2}
	g := [][]int{row, row, row}
	x, ok := impl.GridSet(g, 1, 0, 9)
	wantGrid(t, "GridSet", x, ok, [][]int{{1, 2}, {9, 2}, {1, 2}})
	x, ok = impl.GridMirror(g)
	wantGrid(t, "GridMirror", x, ok, [][]int{{2, 1}, {2, 1}, {2, 1}})
	if !scribble(x) || row[0] != 1 || row[1] != 2 {
		t.Errorf("the rows share memory: %v", row)
	}
}

// Invalid arguments stay as they are.
func TestBadGridsStay(t *testing.T) {
	for name, bad := range badGrids() {
		kept := cloneGrid(bad)
		impl.GridSet(bad, 0, 0, 5)
		impl.GridRaise(bad, 1)
		impl.GridTurn(bad)
		impl.GridMirror(bad)
		impl.GridInvert(bad)
		impl.GridPart(bad, 0, 0, 0, 0)
		impl.GridBeside(bad, bad)
		impl.GridBelow(bad, bad)
		if !sameGrid(bad, kept) {
			t.Errorf("%s changed", name)
		}
	}
}
