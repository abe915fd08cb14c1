package tests

import (
	"slices"
	"testing"

	"loop.example/reliefmaps/impl"
)

func TestWaterLimits(t *testing.T) {
	if impl.CellsMax != 49 {
		t.Errorf("CellsMax is %d", impl.CellsMax)
	}
}

// Promise 13: the lowest of the lower neighbors, of equally low ones the first of north, east, south and west.
func TestWaterNextOfTheMiddle(t *testing.T) {
	cells := []int{1, 5, 7, 3} // north, east, south, west of 4
	levels := []int{0, 2, 5, 9}
	for k := range 256 {
		g := fill(3, 3, func(int) int { return 0 })
		g[1][1] = 5
		want, least := 4, 5
		for side, i := range cells {
			h := levels[k>>(2*side)&3]
			g[i/3][i%3] = h
			if h < least {
				want, least = i, h
			}
		}
		if got := impl.WaterNext(g, 1, 1); got != want {
			t.Errorf("WaterNext(%v, 1, 1) = %d, want %d", g, got, want)
		}
	}
}

// Promise 13: several equally low neighbors, written out.
func TestWaterNextOfEquallyLow(t *testing.T) {
	for _, x := range []struct {
		north, east, south, west, want int
	}{
		{3, 3, 3, 3, 1}, {4, 3, 3, 3, 5}, {4, 4, 3, 3, 7}, {4, 4, 4, 3, 3}, {3, 4, 4, 3, 1}, {3, 4, 3, 4, 1}, {3, 3, 4, 4, 1},
		{4, 3, 4, 3, 5}, {4, 3, 3, 4, 5}, {4, 4, 3, 2, 3}, {3, 3, 3, 2, 3}, {3, 3, 2, 3, 7}, {3, 2, 3, 3, 5}, {3, 3, 2, 2, 7},
		{2, 3, 3, 3, 1}, {6, 6, 6, 3, 3}, {6, 3, 6, 3, 5}, {5, 5, 5, 5, 4}, {6, 6, 6, 6, 4}, {5, 6, 5, 6, 4}, {5, 5, 5, 4, 3},
		{0, 0, 0, 0, 1}, {99, 0, 0, 99, 5}, {99, 99, 99, 99, 4}, {99, 99, 0, 0, 7},
	} {
		g := [][]int{{0, x.north, 0}, {x.west, 5, x.east}, {0, x.south, 0}}
		if got := impl.WaterNext(g, 1, 1); got != x.want {
			t.Errorf("WaterNext(%v, 1, 1) = %d, want %d", g, got, x.want)
		}
	}
}

// Promise 13: one cell, one row, one column, and no way around the sides of the grid.
func TestWaterNextAtTheSides(t *testing.T) {
	for _, x := range []struct {
		g    [][]int
		want []int
	}{
		{[][]int{{0}}, []int{0}},
		{[][]int{{99}}, []int{0}},
		{[][]int{{3, 1, 2, 0, 5, 5, 4}}, []int{1, 1, 3, 3, 3, 6, 6}},
		{[][]int{{3}, {1}, {2}, {0}, {5}, {5}, {4}}, []int{1, 1, 3, 3, 3, 6, 6}},
		{[][]int{{2, 3, 2}}, []int{0, 2, 2}},
		{[][]int{{2}, {3}, {2}}, []int{0, 0, 2}},
		{[][]int{{5, 5, 9}, {0, 5, 5}}, []int{3, 1, 5, 3, 3, 5}},
		{[][]int{{9, 9, 0}, {9, 9, 9}, {0, 9, 9}}, []int{0, 2, 2, 6, 4, 2, 6, 6, 8}},
		{[][]int{{99, 0}, {0, 99}}, []int{1, 1, 2, 1}},
	} {
		for i, want := range x.want {
			if got := impl.WaterNext(x.g, i/len(x.g[0]), i%len(x.g[0])); got != want {
				t.Errorf("WaterNext(%v) of the cell %d = %d, want %d", x.g, i, got, want)
			}
		}
	}
}

// Promise 13.
func TestWaterNextPromise(t *testing.T) {
	for _, g := range waterGrids() {
		h := heightsOf(g)
		higher, fits := raise(g)
		for i := range h {
			r, c := i/len(g[0]), i%len(g[0])
			next := impl.WaterNext(g, r, c)
			if next != nextOf(g, i) {
				t.Fatalf("WaterNext(%v, %d, %d) = %d, want %d", g, r, c, next, nextOf(g, i))
			}
			if next != i && (!slices.Contains(besides(g, i), next) || h[next] >= h[i]) {
				t.Fatalf("WaterNext(%v, %d, %d) = %d is no lower neighbor", g, r, c, next)
			}
			for _, n := range besides(g, i) {
				if h[n] < h[next] {
					t.Fatalf("WaterNext(%v, %d, %d) = %d, but %d is lower", g, r, c, next, n)
				}
			}
			if got := impl.WaterNext(higher, r, c); fits && got != next {
				t.Fatalf("WaterNext(%v, %d, %d) = %d, and %d with all heights 1 greater", g, r, c, next, got)
			}
		}
	}
}

// Promises 13, 14 and 20: cells that are not there.
func TestWaterOfOddCells(t *testing.T) {
	for _, g := range [][][]int{{{5}}, mixed(1, 7), mixed(7, 1), mixed(3, 4), mixed(7, 7), fill(2, 2, func(int) int { return 0 })} {
		for _, r := range oddNumbers() {
			for _, c := range oddNumbers() {
				if r >= 0 && r < len(g) && c >= 0 && c < len(g[0]) {
					continue
				}
				if got := impl.WaterNext(g, r, c); got != -1 {
					t.Errorf("WaterNext(%v, %d, %d) = %d", g, r, c, got)
				}
				x, ok := impl.WaterRun(g, r, c)
				wantNoList(t, "WaterRun of a cell that is not there", x, ok)
				if impl.WaterLeaves(g, r, c) {
					t.Errorf("WaterLeaves(%v, %d, %d)", g, r, c)
				}
			}
		}
	}
}

// Promise 14: runs written out.
func TestWaterRun(t *testing.T) {
	for _, x := range []struct {
		g    [][]int
		r, c int
		want []int
	}{
		{[][]int{{7}}, 0, 0, []int{0}},
		{[][]int{{6, 5, 4, 3, 2, 1, 0}}, 0, 0, []int{0, 1, 2, 3, 4, 5, 6}},
		{[][]int{{6}, {5}, {4}, {3}, {2}, {1}, {0}}, 1, 0, []int{1, 2, 3, 4, 5, 6}},
		{[][]int{{0, 1, 2, 3}}, 0, 3, []int{3, 2, 1, 0}},
		{[][]int{{4, 4, 4}, {4, 4, 4}}, 1, 1, []int{4}},
		{[][]int{{5, 5, 5}, {5, 1, 4}, {5, 5, 5}}, 2, 2, []int{8, 5, 4}},
		{[][]int{{9, 8, 7}, {2, 3, 6}, {1, 4, 5}}, 0, 0, []int{0, 3, 6}},
		{[][]int{{9, 8, 7}, {9, 9, 6}, {3, 4, 5}}, 0, 0, []int{0, 1, 2, 5, 8, 7, 6}},
		{[][]int{{99, 50, 0}, {50, 0, 0}}, 0, 0, []int{0, 1, 2}},
	} {
		got, ok := impl.WaterRun(x.g, x.r, x.c)
		wantList(t, "WaterRun", x.g, got, ok, x.want)
	}
	for name, bad := range badGrids() {
		x, ok := impl.WaterRun(bad, 0, 0)
		wantNoList(t, "WaterRun of "+name, x, ok)
		if got := impl.WaterNext(bad, 0, 0); got != -1 {
			t.Errorf("WaterNext of %s is %d", name, got)
		}
	}
}

// Promise 14.
func TestWaterRunPromise(t *testing.T) {
	for _, g := range waterGrids() {
		h := heightsOf(g)
		for i := range h {
			way := run(t, g, i)
			wantList(t, "WaterRun", g, way, true, runOf(g, i))
			for k := 1; k < len(way); k++ {
				before := way[k-1]
				if h[way[k]] >= h[before] || impl.WaterNext(g, before/len(g[0]), before%len(g[0])) != way[k] {
					t.Fatalf("the run %v of %v does not fall from cell to cell", way, g)
				}
			}
			last := way[len(way)-1]
			if !slices.Contains(impl.WaterSinks(g), last) {
				t.Fatalf("the run %v of %v does not end with a sink", way, g)
			}
			if len(way) > 1 && !slices.Equal(way[1:], run(t, g, way[1])) {
				t.Fatalf("the run %v of %v is another one from its second cell on", way, g)
			}
		}
	}
}

// Promises 14, 17, 19 and 24: a long run that winds through a grid of 7 rows and columns, with one sink.
func TestWaterRunThatWinds(t *testing.T) {
	g := [][]int{
		{30, 29, 28, 27, 26, 25, 24},
		{90, 91, 92, 93, 94, 95, 23},
		{16, 17, 18, 19, 20, 21, 22},
		{15, 96, 97, 98, 99, 99, 99},
		{14, 13, 12, 11, 10, 9, 8},
		{99, 99, 99, 99, 99, 99, 7},
		{0, 1, 2, 3, 4, 5, 6},
	}
	want := []int{0, 1, 2, 3, 4, 5, 6, 13, 20, 19, 18, 17, 16, 15, 14, 21, 28, 29, 30, 31, 32, 33, 34, 41, 48, 47, 46, 45, 44, 43, 42}
	got, ok := impl.WaterRun(g, 0, 0)
	wantList(t, "WaterRun", g, got, ok, want)
	if x := impl.WaterLongest(g); x != 31 {
		t.Errorf("WaterLongest is %d", x)
	}
	if x := impl.WaterSinks(g); !slices.Equal(x, []int{42}) || impl.WaterBasin(g, 42) != 49 || impl.WaterDivide(g) != 0 {
		t.Errorf("the sinks are %v", x)
	}
}
