package tests

import (
	"slices"
	"testing"

	"loop.example/reliefmaps/impl"
)

// besides returns the indexes of the neighbors of a cell, to the north, the east, the south and the west.
func besides(g [][]int, i int) []int {
	rows, cols := len(g), len(g[0])
	var all []int
	if i >= cols {
		all = append(all, i-cols)
	}
	if i%cols < cols-1 {
		all = append(all, i+1)
	}
	if i < (rows-1)*cols {
		all = append(all, i+cols)
	}
	if i%cols > 0 {
		all = append(all, i-1)
	}
	return all
}

// heightsOf returns the heights of a grid by index.
func heightsOf(g [][]int) []int {
	return slices.Concat(g...)
}

// nextOf, runOf and leavesOf follow the document word for word; they are for grids only.
func nextOf(g [][]int, i int) int {
	h := heightsOf(g)
	least := h[i]
	for _, n := range besides(g, i) {
		least = min(least, h[n])
	}
	if least == h[i] {
		return i
	}
	for _, n := range besides(g, i) {
		if h[n] == least {
			return n
		}
	}
	return -1
}

func runOf(g [][]int, i int) []int {
	run := []int{i}
	for nextOf(g, i) != i {
		i = nextOf(g, i)
		run = append(run, i)
	}
	return run
}

// leavesOf goes all ways from a cell on which no height is greater.
func leavesOf(g [][]int, start int) bool {
	h := heightsOf(g)
	seen := make([]bool, len(h))
	seen[start] = true
	for ahead := []int{start}; len(ahead) > 0; ahead = ahead[1:] {
		if onBorder(g, ahead[0]) {
			return true
		}
		for _, n := range besides(g, ahead[0]) {
			if !seen[n] && h[n] <= h[start] {
				seen[n] = true
				ahead = append(ahead, n)
			}
		}
	}
	return false
}

func onBorder(g [][]int, i int) bool {
	return len(besides(g, i)) < 4
}

// fillOf raises cells that water does not leave, each time by 1: a filled grid has them at least this high.
func fillOf(g [][]int) [][]int {
	x := cloneGrid(g)
	for raised := true; raised; {
		raised = false
		for i := range heightsOf(g) {
			if !leavesOf(x, i) {
				x[i/len(g[0])][i%len(g[0])]++
				raised = true
			}
		}
	}
	return x
}

// steps returns a grid whose heights are few, so that many neighbors are equally low.
func steps(rows, cols, few, seed int) [][]int {
	n := uint32(seed)
	return fill(rows, cols, func(int) int {
		n = n*1664525 + 1013904223
		return int(n>>16) % few
	})
}

// smallGrids has all grids of some sizes whose heights are below a few.
func smallGrids() [][][]int {
	var all [][][]int
	for _, size := range [][3]int{{1, 1, 5}, {1, 2, 4}, {2, 1, 4}, {1, 5, 3}, {5, 1, 3}, {2, 3, 3}, {3, 2, 3}, {3, 3, 2}, {3, 4, 2}, {4, 3, 2}} {
		many := 1
		for range size[0] * size[1] {
			many *= size[2]
		}
		for k := range many {
			rest := k
			all = append(all, fill(size[0], size[1], func(int) int {
				h := rest % size[2]
				rest /= size[2]
				return h
			}))
		}
	}
	return all
}

// poolGrids has pools inside pools, pools that meet the border, ways out that wind, and pools that meet at corners only.
func poolGrids() [][][]int {
	return [][][]int{
		{{9, 9, 9, 9, 9, 9, 9}, {9, 5, 5, 5, 5, 5, 9}, {9, 5, 7, 7, 7, 5, 9}, {9, 5, 7, 0, 7, 5, 9}, {9, 5, 7, 7, 7, 5, 9}, {9, 5, 5, 5, 5, 5, 9}, {9, 9, 9, 9, 9, 9, 9}},
		{{9, 9, 9, 9, 9, 9, 9}, {9, 7, 7, 7, 7, 7, 9}, {9, 7, 5, 5, 5, 7, 9}, {9, 7, 5, 3, 5, 7, 9}, {9, 7, 5, 5, 5, 7, 9}, {9, 7, 7, 7, 7, 7, 9}, {9, 9, 9, 8, 9, 9, 9}},
		{{9, 9, 9, 9, 9}, {9, 1, 9, 2, 9}, {9, 9, 9, 9, 9}, {9, 3, 9, 4, 9}, {9, 9, 9, 9, 9}},
		{{0, 9, 9, 9}, {9, 1, 9, 9}, {9, 9, 2, 9}, {9, 9, 9, 3}},
		{{9, 9, 9, 9, 9}, {4, 1, 2, 3, 9}, {9, 9, 9, 9, 9}},
		{{9, 9, 9, 9, 9}, {1, 1, 1, 1, 9}, {9, 9, 9, 9, 9}},
		{{9, 9, 9, 9, 9}, {9, 3, 2, 1, 4}, {9, 9, 9, 9, 9}},
		{{9, 9, 5, 9, 9}, {9, 1, 1, 1, 9}, {9, 9, 9, 9, 9}},
		{{9, 9, 9, 9, 9}, {9, 1, 1, 1, 9}, {9, 9, 9, 6, 9}},
		{{9, 9, 9, 9, 9, 9, 9}, {9, 1, 2, 3, 4, 5, 9}, {9, 9, 9, 9, 9, 6, 9}, {9, 5, 4, 3, 2, 7, 9}, {9, 6, 9, 9, 9, 9, 9}, {9, 7, 6, 5, 4, 3, 8}, {9, 9, 9, 9, 9, 9, 9}},
		{{99, 99, 99}, {99, 0, 99}, {99, 99, 99}},
		{{0, 0, 0}, {0, 99, 0}, {0, 0, 0}},
		{{0, 99, 0}, {99, 0, 99}, {0, 99, 0}},
		{{99, 99, 99, 99}, {99, 98, 0, 99}, {99, 99, 99, 99}},
	}
}

// waterGrids has the grids on which the promises of the chapter are checked.
func waterGrids() [][][]int {
	all := append(append(sampleGrids(), smallGrids()...), poolGrids()...)
	for rows := 1; rows <= 7; rows++ {
		for cols := 1; cols <= 7; cols++ {
			for seed := range 12 {
				all = append(all, steps(rows, cols, 2+seed, 100*rows+10*cols+seed))
			}
		}
	}
	return all
}

// raise returns the grid with all heights 1 greater, or false if it is none.
func raise(g [][]int) ([][]int, bool) {
	x := fill(len(g), len(g[0]), func(i int) int { return g[i/len(g[0])][i%len(g[0])] + 1 })
	return x, slices.Max(heightsOf(x)) <= impl.HeightMax
}

// wantList fails unless a call succeeded with a list.
func wantList(t *testing.T, call string, g [][]int, got []int, ok bool, want []int) {
	t.Helper()
	if !ok || !slices.Equal(got, want) {
		t.Errorf("%s of %v returned %v, %v; want %v, true", call, g, got, ok, want)
	}
}

// wantNoList fails unless a call failed, with the zero value.
func wantNoList(t *testing.T, call string, got []int, ok bool) {
	t.Helper()
	if ok || len(got) != 0 {
		t.Errorf("%s returned %v, %v; want none, false", call, got, ok)
	}
}

// run and filled are for cells and grids with which WaterRun and WaterFill succeed.
func run(t *testing.T, g [][]int, i int) []int {
	t.Helper()
	x, ok := impl.WaterRun(g, i/len(g[0]), i%len(g[0]))
	if !ok {
		t.Fatalf("WaterRun(%v) of the cell %d failed", g, i)
	}
	return x
}

func filled(t *testing.T, g [][]int) [][]int {
	t.Helper()
	x, ok := impl.WaterFill(g)
	if !ok {
		t.Fatalf("WaterFill(%v) failed", g)
	}
	return x
}
