package tests

import (
	"slices"
	"testing"

	"loop.example/reliefmaps/impl"
)

// Promises 39, 40 and 46: passes and ways written out.
func TestPassWayByHand(t *testing.T) {
	flat := fill(3, 3, func(int) int { return 5 })
	ring := [][]int{{5, 9, 9}, {3, 1, 9}, {5, 9, 9}}
	wall := [][]int{{7, 0, 7, 7, 7}, {7, 0, 7, 0, 7}, {7, 7, 7, 0, 7}}
	for _, x := range []struct {
		g    [][]int
		a, b int
		pass int
		way  []int
	}{
		{[][]int{{0}}, 0, 0, 0, []int{0}},
		{[][]int{{99}}, 0, 0, 99, []int{0}},
		{[][]int{{9, 2, 7, 3, 8}}, 0, 4, 2, []int{0, 1, 2, 3, 4}},
		{[][]int{{9, 2, 7, 3, 8}}, 4, 2, 3, []int{4, 3, 2}},
		{[][]int{{9, 2, 7, 3, 8}}, 2, 2, 7, []int{2}},
		{[][]int{{9, 2, 7, 3, 8}}, 1, 1, 2, []int{1}},
		{[][]int{{9}, {2}, {7}, {3}, {8}}, 4, 0, 2, []int{4, 3, 2, 1, 0}},
		{[][]int{{4, 6}}, 0, 1, 4, []int{0, 1}},
		{[][]int{{4, 6}}, 1, 0, 4, []int{1, 0}},
		{[][]int{{0, 99}}, 0, 1, 0, []int{0, 1}},
		{[][]int{{5, 1}, {5, 5}}, 0, 3, 5, []int{0, 2, 3}},
		{[][]int{{5, 1}, {5, 5}}, 3, 0, 5, []int{3, 2, 0}},
		{[][]int{{5, 1}, {5, 5}}, 1, 2, 1, []int{1, 3, 2}},
		{[][]int{{5, 1}, {5, 5}}, 2, 1, 1, []int{2, 0, 1}},
		// The north is ahead of the east, this ahead of the south, and this ahead of the west.
		{flat, 0, 8, 5, []int{0, 1, 2, 5, 8}},
		{flat, 8, 0, 5, []int{8, 5, 2, 1, 0}},
		{flat, 2, 6, 5, []int{2, 5, 8, 7, 6}},
		{flat, 6, 2, 5, []int{6, 3, 0, 1, 2}},
		{flat, 1, 6, 5, []int{1, 4, 7, 6}},
		{flat, 3, 8, 5, []int{3, 4, 5, 8}},
		{flat, 5, 0, 5, []int{5, 2, 1, 0}},
		{flat, 4, 4, 5, []int{4}},
		// The shortest way is too low.
		{ring, 0, 6, 5, []int{0, 1, 2, 5, 8, 7, 6}},
		{ring, 6, 0, 5, []int{6, 7, 8, 5, 2, 1, 0}},
		{ring, 3, 5, 3, []int{3, 0, 1, 2, 5}},
		{ring, 4, 6, 1, []int{4, 7, 6}},
		{ring, 1, 7, 9, []int{1, 2, 5, 8, 7}},
		{wall, 0, 14, 7, []int{0, 5, 10, 11, 12, 7, 2, 3, 4, 9, 14}},
		{wall, 14, 0, 7, []int{14, 9, 4, 3, 2, 7, 12, 11, 10, 5, 0}},
		{wall, 1, 13, 0, []int{1, 2, 3, 8, 13}},
		// The end is lower than all between, so that a short way will do.
		{[][]int{{2, 9, 9}, {3, 1, 9}, {5, 9, 9}}, 0, 6, 2, []int{0, 3, 6}},
		{[][]int{{2, 9, 9}, {3, 1, 9}, {5, 9, 9}}, 6, 0, 2, []int{6, 3, 0}},
	} {
		if got := impl.PassBetween(x.g, x.a, x.b); got != x.pass {
			t.Errorf("PassBetween(%v, %d, %d) = %d, want %d", x.g, x.a, x.b, got, x.pass)
		}
		if got := impl.PeakFlood(x.g, x.a, x.b); got != x.pass {
			t.Errorf("PeakFlood(%v, %d, %d) = %d, want %d", x.g, x.a, x.b, got, x.pass)
		}
		got, ok := impl.PassWay(x.g, x.a, x.b)
		if !ok || !slices.Equal(got, x.way) {
			t.Errorf("PassWay(%v, %d, %d) = %v, %v; want %v, true", x.g, x.a, x.b, got, ok, x.way)
		}
	}
}

// Promise 39.
func TestPassBetween(t *testing.T) {
	for _, g := range peakGrids() {
		got, h := passes(g), heightsOf(g)
		if want := passesOf(g); !sameGrid(got, want) {
			t.Fatalf("PassBetween of %v is %v, want %v", g, got, want)
		}
		for a := range h {
			if got[a][a] != h[a] {
				t.Fatalf("PassBetween(%v, %d, %d) = %d is not the height", g, a, a, got[a][a])
			}
			for b := range a {
				checkPass(t, g, got, a, b)
			}
			for _, n := range besides(g, a) {
				if got[a][n] != min(h[a], h[n]) {
					t.Fatalf("PassBetween(%v, %d, %d) = %d for neighbors", g, a, n, got[a][n])
				}
			}
		}
	}
}

// checkPass fails unless a pass is the same for both cells exchanged, and suits their heights and a third cell.
func checkPass(t *testing.T, g, passes [][]int, a, b int) {
	t.Helper()
	h, pass := heightsOf(g), passes[a][b]
	if passes[b][a] != pass || pass < 0 || pass > min(h[a], h[b]) {
		t.Fatalf("PassBetween(%v, %d, %d) = %d, and %d exchanged", g, a, b, pass, passes[b][a])
	}
	for c := range h {
		if pass < min(passes[a][c], passes[c][b]) {
			t.Fatalf("PassBetween(%v, %d, %d) = %d, but over %d it is greater", g, a, b, pass, c)
		}
	}
}

// wayPairs has pairs of cells of a grid: all of a small one, and some of a greater one.
func wayPairs(g [][]int) [][2]int {
	cells := len(heightsOf(g))
	var pairs [][2]int
	for k := range cells * cells {
		a, b := k/cells, k%cells
		if cells <= 12 || (5*a+3*b)%29 == 0 || (a == 0 || a == cells-1) && (b == 0 || b == cells-1) {
			pairs = append(pairs, [2]int{a, b})
		}
	}
	return pairs
}

// Promise 40.
func TestPassWay(t *testing.T) {
	for _, g := range peakGrids() {
		for _, pair := range wayPairs(g) {
			a, b := pair[0], pair[1]
			got, pass := way(t, g, a, b), impl.PassBetween(g, a, b)
			if want := wayOf(g, a, b, pass); !slices.Equal(got, want) {
				t.Fatalf("PassWay(%v, %d, %d) = %v, want %v", g, a, b, got, want)
			}
			checkWay(t, g, got, a, b, pass)
			if len(got) > 1 && impl.PassBetween(g, got[1], b) == pass && len(way(t, g, got[1], b)) != len(got)-1 {
				t.Fatalf("PassWay(%v, %d, %d) = %v is not as short as that from its second cell", g, a, b, got)
			}
		}
	}
}

// checkWay fails unless a way leads from a cell to another one, over the pass, and over no cell twice.
func checkWay(t *testing.T, g [][]int, way []int, a, b, pass int) {
	t.Helper()
	if way[0] != a || way[len(way)-1] != b {
		t.Fatalf("PassWay(%v, %d, %d) = %v begins or ends elsewhere", g, a, b, way)
	}
	h := heightsOf(g)
	least := h[a]
	for k, i := range way {
		least = min(least, h[i])
		if k > 0 && !slices.Contains(besides(g, way[k-1]), i) {
			t.Fatalf("PassWay(%v, %d, %d) = %v leaves out a cell ahead of %d", g, a, b, way, i)
		}
		if slices.Contains(way[k+1:], i) {
			t.Fatalf("PassWay(%v, %d, %d) = %v has %d twice", g, a, b, way, i)
		}
	}
	if least != pass {
		t.Fatalf("PassWay(%v, %d, %d) = %v has the least height %d, not the pass %d", g, a, b, way, least, pass)
	}
}

// Promise 40: ways through all the turns that 7 rows and columns leave room for.
func TestPassWayWinds(t *testing.T) {
	g := drawn("#######/......#/#######/#....../#######/......#/#######")
	x := way(t, g, 0, 42)
	if len(x) != 31 || impl.PassBetween(g, 0, 42) != 5 || !slices.Equal(x, wayOf(g, 0, 42, 5)) {
		t.Errorf("PassWay of a winding way is %v", x)
	}
	g[3][0] = 3
	if x := way(t, g, 0, 42); impl.PassBetween(g, 0, 42) != 4 || !slices.Equal(x, []int{0, 1, 8, 15, 22, 29, 36, 43, 42}) {
		t.Errorf("PassWay of an interrupted winding way is %v", x)
	}
}

// Promise 46.
func TestPeakFlood(t *testing.T) {
	for _, g := range peakGrids() {
		h := heightsOf(g)
		for _, pair := range wayPairs(g) {
			a, b := pair[0], pair[1]
			flood := impl.PeakFlood(g, a, b)
			if flood != impl.PassBetween(g, a, b) {
				t.Fatalf("PeakFlood(%v, %d, %d) = %d is not PassBetween", g, a, b, flood)
			}
			if list := numbers(t, g, flood); list[a] == -1 || list[a] != list[b] {
				t.Fatalf("PeakFlood(%v, %d, %d) = %d, but the cells are in two regions", g, a, b, flood)
			}
			if flood == min(h[a], h[b]) {
				continue
			}
			if list := numbers(t, g, flood+1); list[a] == list[b] {
				t.Fatalf("PeakFlood(%v, %d, %d) = %d, but the cells are in one region at the next level", g, a, b, flood)
			}
		}
	}
}

// Promises 39, 40 and 46: indexes that are none, and lists that are no grid.
func TestPassesRefuse(t *testing.T) {
	for _, g := range [][][]int{{{5}}, {{0}}, mixed(1, 7), mixed(7, 1), mixed(2, 3), mixed(7, 7)} {
		last := len(heightsOf(g)) - 1
		for _, none := range noCells(g) {
			wantNoPass(t, g, none, 0)
			wantNoPass(t, g, 0, none)
			wantNoPass(t, g, last, none)
			wantNoPass(t, g, none, last)
			wantNoPass(t, g, none, none)
			wantNoPass(t, g, none, -1)
		}
	}
	for _, bad := range badGrids() {
		for _, a := range oddNumbers() {
			wantNoPass(t, bad, a, 0)
			wantNoPass(t, bad, 0, a)
			wantNoPass(t, bad, a, a)
		}
	}
}

func wantNoPass(t *testing.T, g [][]int, a, b int) {
	t.Helper()
	if got := impl.PassBetween(g, a, b); got != -1 {
		t.Errorf("PassBetween(%v, %d, %d) = %d", g, a, b, got)
	}
	if got := impl.PeakFlood(g, a, b); got != -1 {
		t.Errorf("PeakFlood(%v, %d, %d) = %d", g, a, b, got)
	}
	x, ok := impl.PassWay(g, a, b)
	wantNoList(t, "PassWay", x, ok)
}
