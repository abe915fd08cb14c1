package tests

import (
	"testing"

	"loop.example/reliefmaps/impl"
)

const mark = -555

// roomy returns a copy of a grid with room behind its rows and behind each row, filled with marks.
func roomy(g [][]int) [][]int {
	x := make([][]int, len(g)+2)
	for r := range x {
		x[r] = []int{mark}
	}
	for r := range g {
		row := make([]int, len(g[r])+3)
		for i := range row {
			row[i] = mark
		}
		copy(row, g[r])
		x[r] = row[:len(g[r])]
	}
	return x[:len(g)]
}

// roomyStays reports whether roomy(g) is as it was made, up to its capacity.
func roomyStays(x, g [][]int) bool {
	if !sameGrid(x, g) {
		return false
	}
	for _, row := range x[len(x):cap(x)] {
		if len(row) != 1 || row[0] != mark {
			return false
		}
	}
	for _, row := range x {
		for _, h := range row[len(row):cap(row)] {
			if h != mark {
				return false
			}
		}
	}
	return true
}

// scribble writes into a result up to the capacity of its rows, and reports whether no two of these share memory.
func scribble(g [][]int) bool {
	for r := range g {
		row := g[r][:cap(g[r])]
		for i := range row {
			row[i] = 1000 + r
		}
	}
	for r := range g {
		for _, h := range g[r][:cap(g[r])] {
			if h != 1000+r {
				return false
			}
		}
	}
	for r := range g[:cap(g)] {
		g[:cap(g)][r] = []int{mark}
	}
	return true
}

type gridCall struct {
	name string
	run  func(g [][]int) ([][]int, bool)
}

func gridCalls() []gridCall {
	return []gridCall{
		{"GridSet", func(g [][]int) ([][]int, bool) { return impl.GridSet(g, len(g)-1, 0, 50) }},
		{"GridSet of the same height", func(g [][]int) ([][]int, bool) { return impl.GridSet(g, 0, 0, g[0][0]) }},
		{"GridTurn", impl.GridTurn},
		{"GridMirror", impl.GridMirror},
		{"GridRaise by 0", func(g [][]int) ([][]int, bool) { return impl.GridRaise(g, 0) }},
		{"GridRaise by 1", func(g [][]int) ([][]int, bool) { return impl.GridRaise(g, 1) }},
		{"GridInvert", impl.GridInvert},
		{"GridPart of the whole", func(g [][]int) ([][]int, bool) { return impl.GridPart(g, 0, len(g)-1, 0, len(g[0])-1) }},
		{"GridPart of the last row", func(g [][]int) ([][]int, bool) { return impl.GridPart(g, len(g)-1, len(g)-1, 0, len(g[0])-1) }},
		{"GridBeside of itself", func(g [][]int) ([][]int, bool) { return impl.GridBeside(g, g) }},
		{"GridBelow of itself", func(g [][]int) ([][]int, bool) { return impl.GridBelow(g, g) }},
		{"GridFrom", func(g [][]int) ([][]int, bool) { return impl.GridFrom(impl.GridText(g)) }},
	}
}

// Promises 1 to 12: no argument changes, and results share no memory with arguments, with each other or with later results.
func TestGridMemory(t *testing.T) {
	for _, call := range gridCalls() {
		for _, g := range sampleGrids() {
			x := roomy(g)
			first, ok := call.run(x)
			kept := cloneGrid(first)
			if !roomyStays(x, g) {
				t.Fatalf("%s changed its argument %v", call.name, g)
			}
			if !ok {
				continue
			}
			second, _ := call.run(x)
			if !scribble(first) {
				t.Fatalf("%s of %v returned rows that share memory", call.name, g)
			}
			if !roomyStays(x, g) {
				t.Fatalf("%s of %v shares memory with its argument", call.name, g)
			}
			if !sameGrid(second, kept) {
				t.Fatalf("%s of %v shares memory with a later result", call.name, g)
			}
		}
	}
}

// Promises 8 and 9: with two arguments.
func TestGridMemoryOfTwo(t *testing.T) {
	for _, run := range []func(a, b [][]int) ([][]int, bool){impl.GridBeside, impl.GridBelow} {
		for _, a := range mixedGrids() {
			for _, b := range mixedGrids() {
				x, y := roomy(a), roomy(b)
				got, ok := run(x, y)
				if ok && !scribble(got) {
					t.Fatalf("rows of the result of %v and %v share memory", a, b)
				}
				if !roomyStays(x, a) || !roomyStays(y, b) {
					t.Fatalf("an argument changed: %v, %v", a, b)
				}
			}
		}
	}
}

// Promises 1, 10 and 11: what returns no grid leaves its argument alone, too.
func TestGridReadersChangeNothing(t *testing.T) {
	for _, g := range sampleGrids() {
		x := roomy(g)
		impl.GridValid(x)
		impl.GridAt(x, 0, 0)
		impl.GridRange(x)
		impl.GridText(x)
		if !roomyStays(x, g) {
			t.Fatalf("an argument changed: %v", g)
		}
	}
}

// Promise 2: rows of an argument may be one slice, those of the result are not.
func TestGridRowsThatAreOne(t *testing.T) {
	row := []int{1, 2}
	g := [][]int{row, row, row}
	x, ok := impl.GridSet(g, 1, 0, 9)
	wantGrid(t, "GridSet", x, ok, [][]int{{1, 2}, {9, 2}, {1, 2}})
	x, ok = impl.GridMirror(g)
	wantGrid(t, "GridMirror", x, ok, [][]int{{2, 1}, {2, 1}, {2, 1}})
	if !scribble(x) || row[0] != 1 || row[1] != 2 {
		t.Errorf("the rows share memory: %v", row)
	}
}

// Invalid arguments stay as they are.
func TestBadGridsStay(t *testing.T) {
	for name, bad := range badGrids() {
		kept := cloneGrid(bad)
		impl.GridSet(bad, 0, 0, 5)
		impl.GridRaise(bad, 1)
		impl.GridTurn(bad)
		impl.GridMirror(bad)
		impl.GridInvert(bad)
		impl.GridPart(bad, 0, 0, 0, 0)
		impl.GridBeside(bad, bad)
		impl.GridBelow(bad, bad)
		if !sameGrid(bad, kept) {
			t.Errorf("%s changed", name)
		}
	}
}
