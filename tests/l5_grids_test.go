package tests

import (
	"testing"

	"loop.example/reliefmaps/impl"
)

// columnOf returns the heights of a column.
func columnOf(g [][]int, c int) []int {
	return rule(len(g), func(r int) int { return g[r][c] })
}

// Promise 62: numbers of pairs written out.
func TestGridSeesByHand(t *testing.T) {
	for _, x := range []struct {
		g    [][]int
		want int
	}{
		{[][]int{{0}}, 0},
		{[][]int{{99}}, 0},
		{[][]int{{0, 99}}, 1},
		{[][]int{{0}, {99}}, 1},
		{[][]int{{5, 5}, {5, 5}}, 4},
		{[][]int{{1, 9, 1}}, 2},
		{[][]int{{1}, {9}, {1}}, 2},
		{[][]int{{9, 1, 9}}, 3},
		{[][]int{{9}, {1}, {9}}, 3},
		{[][]int{{3, 1, 4, 2, 5}}, 7},
		{[][]int{{3}, {1}, {4}, {2}, {5}}, 7},
		// In the rows 3, 2 and 3, in the columns 3, 2 and 3.
		{[][]int{{5, 5, 5}, {5, 9, 5}, {5, 5, 5}}, 16},
		{[][]int{{5, 5, 5}, {5, 1, 5}, {5, 5, 5}}, 18},
		// In the rows 2 and 3, in the columns 1 each.
		{[][]int{{0, 1, 0}, {0, 0, 0}}, 8},
		{fill(7, 7, func(int) int { return 99 }), 294},
		{fill(1, 7, func(int) int { return 0 }), 21},
		{fill(7, 1, func(int) int { return 0 }), 21},
		{fill(7, 7, func(i int) int { return i/7*(6-i/7) + i%7*(6-i%7) }), 84},
		{fill(7, 7, func(i int) int { return i/7*(6-i/7) + 50 - i%7*(6-i%7) }), 189},
	} {
		if got := impl.GridSees(x.g); got != x.want {
			t.Errorf("GridSees(%v) = %d, want %d", x.g, got, x.want)
		}
	}
}

// Promise 62.
func TestGridSees(t *testing.T) {
	for _, g := range levelGrids() {
		got, want := impl.GridSees(g), 0
		for _, row := range g {
			want += pairsOf(row)
		}
		for c := range g[0] {
			want += pairsOf(columnOf(g, c))
		}
		neighbors := len(g)*(len(g[0])-1) + (len(g)-1)*len(g[0])
		if got != want || got < neighbors {
			t.Fatalf("GridSees(%v) = %d, want %d", g, got, want)
		}
		if turned := impl.GridSees(turn(t, g)); turned != got {
			t.Fatalf("GridSees(%v) = %d, but %d turned", g, got, turned)
		}
		if mirrored := impl.GridSees(mirror(t, g)); mirrored != got {
			t.Fatalf("GridSees(%v) = %d, but %d mirrored", g, got, mirrored)
		}
		if x, ok := raise(g); ok && impl.GridSees(x) != got {
			t.Fatalf("GridSees(%v) = %d, but %d with all heights 1 greater", g, got, impl.GridSees(x))
		}
	}
}

// Promise 62: lists that are no grid.
func TestGridSeesRefuses(t *testing.T) {
	for name, bad := range badGrids() {
		if got := impl.GridSees(bad); got != -1 {
			t.Errorf("GridSees of %s is %d", name, got)
		}
	}
}
