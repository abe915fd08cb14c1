package tests

import (
	"math"
	"testing"

	"loop.example/reliefmaps/impl"
)

// fill returns a grid whose heights a rule gives by index.
func fill(rows, cols int, height func(i int) int) [][]int {
	g := make([][]int, rows)
	for r := range g {
		g[r] = make([]int, cols)
		for c := range g[r] {
			g[r][c] = height(r*cols + c)
		}
	}
	return g
}

// mixed returns a grid with a different height at each cell: 37 and 100 have no common divisor.
func mixed(rows, cols int) [][]int {
	return fill(rows, cols, func(i int) int { return (63 + 11*rows + 5*cols + 37*i) % 100 })
}

// mixedGrids has a grid of each size, with one row, one column, one cell, and 7 rows and columns among them.
func mixedGrids() [][][]int {
	var all [][][]int
	for rows := 1; rows <= 7; rows++ {
		for cols := 1; cols <= 7; cols++ {
			all = append(all, mixed(rows, cols))
		}
	}
	return all
}

// sampleGrids has grids of each size, with room below and above the heights, and with the heights 0 and 99.
func sampleGrids() [][][]int {
	all := mixedGrids()
	for rows := 1; rows <= 7; rows++ {
		for cols := 1; cols <= 7; cols++ {
			all = append(all,
				fill(rows, cols, func(i int) int { return 40 + 7*i%20 }),
				fill(rows, cols, func(int) int { return 0 }),
				fill(rows, cols, func(int) int { return 99 }),
				fill(rows, cols, func(i int) int { return 99 * (i % 2) }))
		}
	}
	return all
}

// badGrids has lists that are no grid.
func badGrids() map[string][][]int {
	return map[string][][]int{
		"nil":                        nil,
		"no rows":                    {},
		"a row without columns":      {{}},
		"a nil row":                  {nil},
		"rows without columns":       {{}, {}},
		"first row empty":            {{}, {1}},
		"last row empty":             {{1}, {}},
		"second row shorter":         {{1, 2}, {3}},
		"second row longer":          {{1}, {2, 3}},
		"last row shorter":           {{1, 2}, {3, 4}, {5}},
		"last row longer":            {{1, 2}, {3, 4}, {5, 6, 7}},
		"as many cells, other rows":  {{1, 2}, {3}, {4, 5, 6}},
		"8 rows":                     fill(8, 1, func(int) int { return 1 }),
		"8 columns":                  fill(1, 8, func(int) int { return 1 }),
		"8 rows and 7 columns":       fill(8, 7, func(int) int { return 1 }),
		"7 rows and 8 columns":       fill(7, 8, func(int) int { return 1 }),
		"49 rows":                    fill(49, 1, func(int) int { return 1 }),
		"49 columns":                 fill(1, 49, func(int) int { return 1 }),
		"many rows without columns":  make([][]int, 100000),
		"many columns":               {make([]int, 100000)},
		"height -1":                  {{-1}},
		"height 100":                 {{100}},
		"first height -1 in a row":   {{-1, 5, 5}},
		"last height 100 in a row":   {{5, 5, 100}},
		"last height -1 in a column": {{5}, {5}, {-1}},
		"height 100 inside":          {{1, 2, 3}, {4, 100, 6}, {7, 8, 9}},
		"height -1 inside":           {{1, 2, 3}, {4, -1, 6}, {7, 8, 9}},
		"least number":               {{1, math.MinInt}},
		"greatest number":            {{1, math.MaxInt}},
		"256":                        {{256}},
		"a height and 2 to the 32":   {{1<<32 + 5}},
	}
}

// oddNumbers has numbers around the limits and far beyond them.
func oddNumbers() []int {
	far := []int{math.MinInt, math.MinInt + 1, -1 << 62, -1 << 32, -1 << 31, -100, -99, -49}
	for n := -9; n <= 9; n++ {
		far = append(far, n)
	}
	return append(far, 48, 49, 50, 98, 99, 100, 255, 256, 1<<31, 1<<32, 1<<61, 1<<62, math.MaxInt-1, math.MaxInt)
}

func cloneGrid(g [][]int) [][]int {
	if len(g) == 0 {
		return nil
	}
	x := make([][]int, len(g))
	for r := range g {
		x[r] = append([]int(nil), g[r]...)
	}
	return x
}

func sameGrid(a, b [][]int) bool {
	if len(a) != len(b) {
		return false
	}
	for r := range a {
		if len(a[r]) != len(b[r]) {
			return false
		}
		for c := range a[r] {
			if a[r][c] != b[r][c] {
				return false
			}
		}
	}
	return true
}

// wantGrid fails unless a call succeeded with a grid.
func wantGrid(t *testing.T, call string, got [][]int, ok bool, want [][]int) {
	t.Helper()
	if !ok || !sameGrid(got, want) {
		t.Errorf("%s returned %v, %v; want %v, true", call, got, ok, want)
	}
}

// wantNone fails unless a call failed, with the zero value.
func wantNone(t *testing.T, call string, got [][]int, ok bool) {
	t.Helper()
	if ok || len(got) != 0 {
		t.Errorf("%s returned %v, %v; want none, false", call, got, ok)
	}
}

// turn, mirror and beside are for grids with which these functions succeed.
func turn(t *testing.T, g [][]int) [][]int {
	t.Helper()
	x, ok := impl.GridTurn(g)
	if !ok {
		t.Fatalf("GridTurn(%v) failed", g)
	}
	return x
}

func mirror(t *testing.T, g [][]int) [][]int {
	t.Helper()
	x, ok := impl.GridMirror(g)
	if !ok {
		t.Fatalf("GridMirror(%v) failed", g)
	}
	return x
}

func beside(t *testing.T, a, b [][]int) [][]int {
	t.Helper()
	x, ok := impl.GridBeside(a, b)
	if !ok {
		t.Fatalf("GridBeside(%v, %v) failed", a, b)
	}
	return x
}
