package tests

import (
	"math"
	"slices"
	"testing"

	"loop.example/reliefmaps/impl"
)

func TestGridLimits(t *testing.T) {
	if impl.SideMax != 7 || impl.HeightMax != 99 {
		t.Errorf("SideMax is %d, HeightMax is %d", impl.SideMax, impl.HeightMax)
	}
}

func TestGridValid(t *testing.T) {
	for _, g := range sampleGrids() {
		if !impl.GridValid(g) {
			t.Errorf("%v is no grid", g)
		}
	}
	for name, g := range badGrids() {
		if impl.GridValid(g) {
			t.Errorf("%s: a grid", name)
		}
	}
}

// A wrong height makes any list no grid, wherever it is.
func TestGridValidLooksAtEachCell(t *testing.T) {
	for _, g := range mixedGrids() {
		for r := range g {
			for c := range g[r] {
				for _, h := range []int{math.MinInt, -1, 100, math.MaxInt} {
					x := cloneGrid(g)
					x[r][c] = h
					if impl.GridValid(x) {
						t.Errorf("%v is a grid", x)
					}
				}
			}
		}
	}
}

// Promise 1: the height at each cell, and none beyond.
func TestGridAt(t *testing.T) {
	for _, g := range sampleGrids() {
		for _, r := range oddNumbers() {
			for _, c := range oddNumbers() {
				want := -1
				if r >= 0 && r < len(g) && c >= 0 && c < len(g[0]) {
					want = g[r][c]
				}
				if got := impl.GridAt(g, r, c); got != want {
					t.Fatalf("GridAt(%v, %d, %d) = %d, want %d", g, r, c, got, want)
				}
			}
		}
	}
	for name, g := range badGrids() {
		for _, cell := range [][2]int{{0, 0}, {0, 1}, {1, 0}, {-1, -1}, {8, 8}} {
			if got := impl.GridAt(g, cell[0], cell[1]); got != -1 {
				t.Errorf("%s: GridAt of %v is %d", name, cell, got)
			}
		}
	}
}

// Promise 1: setting what is there is the grid, and turning moves a cell.
func TestGridAtSetAndTurn(t *testing.T) {
	for _, g := range sampleGrids() {
		x := turn(t, g)
		for r := range g {
			for c := range g[r] {
				h := impl.GridAt(g, r, c)
				same, ok := impl.GridSet(g, r, c, h)
				wantGrid(t, "GridSet of the same height", same, ok, g)
				if got := impl.GridAt(x, c, len(g)-1-r); got != h {
					t.Errorf("%v turned has %d at row %d, column %d; want %d", g, got, c, len(g)-1-r, h)
				}
			}
		}
	}
}

// Promise 2.
func TestGridSet(t *testing.T) {
	for _, g := range sampleGrids() {
		for r := range g {
			for c := range g[r] {
				for _, h := range []int{0, 1, 50, 98, 99} {
					want := cloneGrid(g)
					want[r][c] = h
					got, ok := impl.GridSet(g, r, c, h)
					wantGrid(t, "GridSet", got, ok, want)
					if at := impl.GridAt(got, r, c); at != h {
						t.Errorf("GridAt is %d behind GridSet to %d", at, h)
					}
					back, ok := impl.GridSet(got, r, c, g[r][c])
					wantGrid(t, "GridSet back", back, ok, g)
				}
			}
		}
	}
}

// Promise 2: what GridSet refuses.
func TestGridSetRefuses(t *testing.T) {
	g := mixed(3, 4)
	for _, r := range oddNumbers() {
		for _, c := range oddNumbers() {
			if r >= 0 && r < 3 && c >= 0 && c < 4 {
				continue
			}
			x, ok := impl.GridSet(g, r, c, 5)
			wantNone(t, "GridSet of a cell that is not there", x, ok)
		}
	}
	for _, h := range oddNumbers() {
		if x, ok := impl.GridSet(g, 2, 3, h); h < 0 || h > 99 {
			wantNone(t, "GridSet of no height", x, ok)
		}
	}
	for name, bad := range badGrids() {
		x, ok := impl.GridSet(bad, 0, 0, 5)
		wantNone(t, "GridSet of "+name, x, ok)
	}
	// The wrong height would be replaced, but the lists are no grid ahead of it.
	x, ok := impl.GridSet([][]int{{100}}, 0, 0, 5)
	wantNone(t, "GridSet at a wrong height", x, ok)
}

// Promise 3: the first row is the first column from below.
func TestGridTurn(t *testing.T) {
	x, ok := impl.GridTurn([][]int{{7, 12}, {30, 99}})
	wantGrid(t, "GridTurn of a square", x, ok, [][]int{{30, 7}, {99, 12}})
	x, ok = impl.GridTurn([][]int{{1, 2, 3}})
	wantGrid(t, "GridTurn of one row", x, ok, [][]int{{1}, {2}, {3}})
	x, ok = impl.GridTurn([][]int{{1}, {2}, {3}})
	wantGrid(t, "GridTurn of one column", x, ok, [][]int{{3, 2, 1}})
	x, ok = impl.GridTurn([][]int{{0}})
	wantGrid(t, "GridTurn of one cell", x, ok, [][]int{{0}})
	for _, g := range sampleGrids() {
		want := fill(len(g[0]), len(g), func(i int) int { return g[len(g)-1-i%len(g)][i/len(g)] })
		x, ok := impl.GridTurn(g)
		wantGrid(t, "GridTurn", x, ok, want)
	}
	for name, bad := range badGrids() {
		x, ok := impl.GridTurn(bad)
		wantNone(t, "GridTurn of "+name, x, ok)
	}
}

// Promise 3.
func TestGridTurnPromise(t *testing.T) {
	for _, g := range sampleGrids() {
		x := turn(t, g)
		if !sameGrid(turn(t, turn(t, turn(t, x))), g) {
			t.Errorf("four turns of %v do not lead back", g)
		}
		low, high, ok := impl.GridRange(g)
		l, h, fine := impl.GridRange(x)
		if !ok || !fine || l != low || h != high {
			t.Errorf("GridRange of %v turned is %d, %d", g, l, h)
		}
		if !sameGrid(turn(t, turn(t, mirror(t, g))), mirror(t, turn(t, turn(t, g)))) {
			t.Errorf("mirroring %v before and behind two turns differs", g)
		}
	}
}

// Promise 4: the columns in the opposite order.
func TestGridMirror(t *testing.T) {
	x, ok := impl.GridMirror([][]int{{7, 12}, {30, 99}})
	wantGrid(t, "GridMirror of a square", x, ok, [][]int{{12, 7}, {99, 30}})
	x, ok = impl.GridMirror([][]int{{1, 2, 3}})
	wantGrid(t, "GridMirror of one row", x, ok, [][]int{{3, 2, 1}})
	x, ok = impl.GridMirror([][]int{{1}, {2}, {3}})
	wantGrid(t, "GridMirror of one column", x, ok, [][]int{{1}, {2}, {3}})
	for _, g := range sampleGrids() {
		cols := len(g[0])
		want := fill(len(g), cols, func(i int) int { return g[i/cols][cols-1-i%cols] })
		x, ok := impl.GridMirror(g)
		wantGrid(t, "GridMirror", x, ok, want)
	}
	for name, bad := range badGrids() {
		x, ok := impl.GridMirror(bad)
		wantNone(t, "GridMirror of "+name, x, ok)
	}
}

// Promise 4.
func TestGridMirrorPromise(t *testing.T) {
	for _, g := range sampleGrids() {
		if !sameGrid(mirror(t, mirror(t, g)), g) {
			t.Errorf("%v mirrored twice differs", g)
		}
		if !sameGrid(mirror(t, turn(t, g)), turn(t, turn(t, turn(t, mirror(t, g))))) {
			t.Errorf("turning %v before mirroring is not mirroring before three turns", g)
		}
	}
}

// Promise 5: which steps succeed, and to what they lead.
func TestGridRaise(t *testing.T) {
	steps := oddNumbers()
	for k := -101; k <= 101; k++ {
		steps = append(steps, k)
	}
	for _, g := range sampleGrids() {
		all := slices.Concat(g...)
		low, high := slices.Min(all), slices.Max(all)
		for _, k := range steps {
			x, ok := impl.GridRaise(g, k)
			if k < -low || k > 99-high {
				wantNone(t, "GridRaise beyond the heights", x, ok)
				continue
			}
			want := fill(len(g), len(g[0]), func(i int) int { return all[i] + k })
			wantGrid(t, "GridRaise", x, ok, want)
			l, h, fine := impl.GridRange(x)
			if !fine || l != low+k || h != high+k {
				t.Errorf("GridRange of %v raised by %d is %d, %d", g, k, l, h)
			}
			back, ok := impl.GridRaise(x, -k)
			wantGrid(t, "GridRaise back", back, ok, g)
		}
	}
}

// Promise 5: lists that are no grid stay none, even if raising made a grid of them.
func TestGridRaiseRefuses(t *testing.T) {
	for name, bad := range badGrids() {
		for _, k := range []int{0, 1, -1, math.MaxInt, math.MinInt} {
			x, ok := impl.GridRaise(bad, k)
			wantNone(t, "GridRaise of "+name, x, ok)
		}
	}
}

// Promise 6.
func TestGridInvert(t *testing.T) {
	x, ok := impl.GridInvert([][]int{{7, 12}, {0, 99}})
	wantGrid(t, "GridInvert", x, ok, [][]int{{92, 87}, {99, 0}})
	for _, g := range sampleGrids() {
		want := fill(len(g), len(g[0]), func(i int) int { return 99 - g[i/len(g[0])][i%len(g[0])] })
		x, ok := impl.GridInvert(g)
		wantGrid(t, "GridInvert", x, ok, want)
		back, ok := impl.GridInvert(x)
		wantGrid(t, "GridInvert twice", back, ok, g)
		_, high, _ := impl.GridRange(g)
		if low, _, _ := impl.GridRange(x); low != 99-high {
			t.Errorf("the least height of %v inverted is %d", g, low)
		}
	}
	for name, bad := range badGrids() {
		x, ok := impl.GridInvert(bad)
		wantNone(t, "GridInvert of "+name, x, ok)
	}
}

// between returns what GridPart returns if it succeeds.
func between(g [][]int, top, bottom, left, right int) [][]int {
	var x [][]int
	for r := top; r <= bottom; r++ {
		x = append(x, append([]int(nil), g[r][left:right+1]...))
	}
	return x
}

// Promise 7: all parts of grids of each size, and all that are none.
func TestGridPart(t *testing.T) {
	for _, g := range mixedGrids() {
		rows, cols := len(g), len(g[0])
		for top := -1; top <= 8; top++ {
			for bottom := -1; bottom <= 8; bottom++ {
				for left := -1; left <= 8; left++ {
					for right := -1; right <= 8; right++ {
						x, ok := impl.GridPart(g, top, bottom, left, right)
						if top < 0 || top > bottom || bottom >= rows || left < 0 || left > right || right >= cols {
							wantNone(t, "GridPart beyond the grid", x, ok)
						} else {
							wantGrid(t, "GridPart", x, ok, between(g, top, bottom, left, right))
						}
					}
				}
			}
		}
	}
}

// Promise 7: far numbers, and lists that are no grid.
func TestGridPartRefuses(t *testing.T) {
	g := mixed(3, 3)
	for _, n := range oddNumbers() {
		if n >= 0 && n < 3 {
			continue
		}
		for _, a := range [][4]int{{n, 2, 0, 2}, {0, n, 0, 2}, {0, 2, n, 2}, {0, 2, 0, n}, {n, n, 0, 2}, {0, 2, n, n}, {n, n, n, n}} {
			x, ok := impl.GridPart(g, a[0], a[1], a[2], a[3])
			wantNone(t, "GridPart with a far number", x, ok)
		}
	}
	x, ok := impl.GridPart(g, math.MinInt, math.MaxInt, math.MinInt, math.MaxInt)
	wantNone(t, "GridPart with the farthest numbers", x, ok)
	for name, bad := range badGrids() {
		x, ok := impl.GridPart(bad, 0, 0, 0, 0)
		wantNone(t, "GridPart of "+name, x, ok)
	}
	// The part alone would be a grid.
	x, ok = impl.GridPart([][]int{{1, 100}, {2, 3}}, 1, 1, 0, 1)
	wantNone(t, "GridPart beside a wrong height", x, ok)
}

// Promise 7: the part of the part is a part, and the whole is its columns up to one, beside those behind it.
func TestGridPartPromise(t *testing.T) {
	for _, g := range mixedGrids() {
		rows, cols := len(g), len(g[0])
		for cut := 0; cut < cols-1; cut++ {
			west, ok := impl.GridPart(g, 0, rows-1, 0, cut)
			east, fine := impl.GridPart(g, 0, rows-1, cut+1, cols-1)
			if !ok || !fine || !sameGrid(beside(t, west, east), g) {
				t.Errorf("%v is not %v beside %v", g, west, east)
			}
		}
		for top := range rows {
			for left := range cols {
				rest, _ := impl.GridPart(g, top, rows-1, left, cols-1)
				for bottom := top; bottom < rows; bottom++ {
					for right := left; right < cols; right++ {
						want, _ := impl.GridPart(g, top, bottom, left, right)
						got, ok := impl.GridPart(rest, 0, bottom-top, 0, right-left)
						wantGrid(t, "GridPart of the part", got, ok, want)
					}
				}
			}
		}
	}
}

// Promise 8: all pairs of sizes.
func TestGridBeside(t *testing.T) {
	x, ok := impl.GridBeside([][]int{{1, 2}}, [][]int{{0, 99, 3}})
	wantGrid(t, "GridBeside of one row", x, ok, [][]int{{1, 2, 0, 99, 3}})
	for _, a := range mixedGrids() {
		for _, b := range mixedGrids() {
			rows, wide := len(a), len(a[0])+len(b[0])
			x, ok := impl.GridBeside(a, b)
			if rows != len(b) || wide > 7 {
				wantNone(t, "GridBeside of these sizes", x, ok)
				continue
			}
			want := make([][]int, rows)
			for r := range want {
				want[r] = slices.Concat(a[r], b[r])
			}
			wantGrid(t, "GridBeside", x, ok, want)
			west, ok := impl.GridPart(x, 0, rows-1, 0, len(a[0])-1)
			wantGrid(t, "GridPart to the west", west, ok, a)
			east, ok := impl.GridPart(x, 0, rows-1, len(a[0]), wide-1)
			wantGrid(t, "GridPart to the east", east, ok, b)
			if !sameGrid(mirror(t, x), beside(t, mirror(t, b), mirror(t, a))) {
				t.Errorf("%v mirrored is not both mirrored in the opposite order", x)
			}
		}
	}
}

// Promise 9: all pairs of sizes.
func TestGridBelow(t *testing.T) {
	x, ok := impl.GridBelow([][]int{{1, 2}}, [][]int{{0, 99}})
	wantGrid(t, "GridBelow of one row", x, ok, [][]int{{1, 2}, {0, 99}})
	for _, a := range mixedGrids() {
		for _, b := range mixedGrids() {
			high, cols := len(a)+len(b), len(a[0])
			x, ok := impl.GridBelow(a, b)
			if cols != len(b[0]) || high > 7 {
				wantNone(t, "GridBelow of these sizes", x, ok)
				continue
			}
			wantGrid(t, "GridBelow", x, ok, slices.Concat(a, b))
			north, ok := impl.GridPart(x, 0, len(a)-1, 0, cols-1)
			wantGrid(t, "GridPart to the north", north, ok, a)
			south, ok := impl.GridPart(x, len(a), high-1, 0, cols-1)
			wantGrid(t, "GridPart to the south", south, ok, b)
			if !sameGrid(turn(t, x), beside(t, turn(t, b), turn(t, a))) {
				t.Errorf("%v turned is not the second one turned, beside the first one turned", x)
			}
		}
	}
}

// Promises 8 and 9: one of both is no grid, or both are none.
func TestGridBesideAndBelowRefuse(t *testing.T) {
	for name, bad := range badGrids() {
		for _, good := range [][][]int{{{1}}, {{1, 2}}, {{1}, {2}}, mixed(3, 3), bad} {
			x, ok := impl.GridBeside(good, bad)
			wantNone(t, "GridBeside to the west of "+name, x, ok)
			x, ok = impl.GridBeside(bad, good)
			wantNone(t, "GridBeside to the east of "+name, x, ok)
			x, ok = impl.GridBelow(good, bad)
			wantNone(t, "GridBelow to the north of "+name, x, ok)
			x, ok = impl.GridBelow(bad, good)
			wantNone(t, "GridBelow to the south of "+name, x, ok)
		}
	}
}

// checkRange compares GridRange with the least and the greatest height.
func checkRange(t *testing.T, g [][]int) {
	t.Helper()
	all := slices.Concat(g...)
	low, high, ok := impl.GridRange(g)
	if !ok || low != slices.Min(all) || high != slices.Max(all) {
		t.Errorf("GridRange(%v) = %d, %d, %v", g, low, high, ok)
	}
}

// Promise 10: some cell has the least and some the greatest height, wherever they are.
func TestGridRange(t *testing.T) {
	for _, g := range sampleGrids() {
		checkRange(t, g)
	}
	for _, size := range [][2]int{{1, 1}, {1, 2}, {1, 7}, {2, 1}, {7, 1}, {3, 4}, {7, 7}} {
		cells := size[0] * size[1]
		for least := range cells {
			for most := range cells {
				g := fill(size[0], size[1], func(int) int { return 50 })
				g[least/size[1]][least%size[1]] = 20
				g[most/size[1]][most%size[1]] = 80
				checkRange(t, g)
			}
		}
	}
	for name, bad := range badGrids() {
		if low, high, ok := impl.GridRange(bad); ok || low != 0 || high != 0 {
			t.Errorf("GridRange of %s is %d, %d, %v", name, low, high, ok)
		}
	}
}
