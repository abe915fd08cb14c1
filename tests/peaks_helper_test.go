package tests

import (
	"slices"
	"testing"

	"loop.example/reliefmaps/impl"
)

// These follow the document word for word; they are for grids only.

// higher reports whether a cell is ranked higher than another one.
func higher(g [][]int, a, b int) bool {
	h := heightsOf(g)
	return h[a] > h[b] || h[a] == h[b] && a < b
}

func isPeakOf(g [][]int, i int) bool {
	return !slices.ContainsFunc(besides(g, i), func(n int) bool { return !higher(g, i, n) })
}

// byRank returns the cells of a list from the highest to the lowest rank.
func byRank(g [][]int, cells []int) []int {
	list := slices.Clone(cells)
	slices.SortFunc(list, func(a, b int) int {
		switch {
		case a == b:
			return 0
		case higher(g, a, b):
			return -1
		}
		return 1
	})
	return list
}

func peaksOf(g [][]int) []int {
	var peaks []int
	for i := range heightsOf(g) {
		if isPeakOf(g, i) {
			peaks = append(peaks, i)
		}
	}
	return byRank(g, peaks)
}

// passesOf returns the passes between all cells: the greatest level at which a region has both.
func passesOf(g [][]int) [][]int {
	heights := heightsOf(g)
	passes := make([][]int, len(heights))
	for i := range passes {
		passes[i] = make([]int, len(heights))
	}
	levels := slices.Compact(slices.Sorted(slices.Values(heights)))
	for _, level := range levels {
		for _, region := range regionsOf(g, level) {
			for _, a := range region {
				for _, b := range region {
					passes[a][b] = level
				}
			}
		}
	}
	return passes
}

// keyOf and parentOf are for peaks.
func keyOf(g [][]int, peak int) int {
	passes := passesOf(g)[peak]
	key := -1
	for i, pass := range passes {
		if higher(g, i, peak) {
			key = max(key, pass)
		}
	}
	if key == -1 {
		return slices.Min(heightsOf(g))
	}
	return key
}

func parentOf(g [][]int, peak int) int {
	for _, region := range regionsOf(g, keyOf(g, peak)) {
		if !slices.Contains(region, peak) {
			continue
		}
		for _, other := range peaksOf(g) {
			if slices.Contains(region, other) {
				return other
			}
		}
	}
	return -1
}

// wayOf goes all shortest ways at once. They stay in the order of their directions, so that the first one that
// arrives is the one asked for.
func wayOf(g [][]int, a, b, pass int) []int {
	h := heightsOf(g)
	met := make([]bool, len(h))
	met[a] = true
	for ways := [][]int{{a}}; len(ways) > 0; {
		var longer [][]int
		for _, way := range ways {
			end := way[len(way)-1]
			if end == b {
				return way
			}
			for _, n := range besides(g, end) {
				if !met[n] && h[n] >= pass {
					longer = append(longer, append(slices.Clone(way), n))
				}
			}
		}
		for _, way := range longer {
			met[way[len(way)-1]] = true
		}
		ways = longer
	}
	return nil
}

// equalGrids has equally high peaks beside each other and far apart, several peaks with one key, parents that are
// not the nearest higher peak, and the highest height at several cells.
func equalGrids() [][][]int {
	return [][][]int{
		{{5, 5, 5}}, {{5}, {5}, {5}}, {{5, 1, 5}}, {{5}, {1}, {5}}, {{5, 1, 5}, {5, 5, 5}}, {{1, 5}, {5, 5}},
		{{5, 2, 9, 2, 7}}, {{9, 3, 6, 3, 5}}, {{9, 3, 9, 5, 9}}, {{0, 9, 0, 9, 0}}, {{8, 9, 9, 8}}, {{9, 8, 8, 9}},
		{{9, 1, 1, 7}, {4, 1, 6, 3}, {5, 5, 2, 1}},
		{{99, 0, 99}, {0, 99, 0}, {99, 0, 99}}, {{0, 99, 0}, {99, 0, 99}, {0, 99, 0}},
		{{7, 7, 1, 7, 7}, {7, 7, 1, 7, 7}, {1, 1, 4, 1, 1}, {7, 7, 1, 7, 7}, {7, 7, 1, 7, 7}},
		{{3, 3, 3, 3, 3, 3, 3}, {3, 9, 3, 9, 3, 9, 3}, {3, 3, 3, 3, 3, 3, 3}, {3, 9, 3, 8, 3, 9, 3}, {3, 3, 3, 3, 3, 3, 3}, {3, 9, 3, 9, 3, 9, 3}, {3, 3, 3, 3, 3, 3, 3}},
		{{9, 5, 9, 4, 9, 3, 9}, {5, 0, 0, 0, 0, 0, 2}, {9, 0, 6, 7, 8, 0, 9}, {4, 0, 7, 0, 7, 0, 1}, {9, 0, 8, 7, 6, 0, 9}, {3, 0, 0, 0, 0, 0, 2}, {9, 2, 9, 1, 9, 2, 9}},
		{{1, 2, 3, 4, 5, 6, 7}, {7, 6, 5, 4, 3, 2, 1}, {1, 2, 3, 4, 5, 6, 7}, {7, 6, 5, 4, 3, 2, 1}, {1, 2, 3, 4, 5, 6, 7}, {7, 6, 5, 4, 3, 2, 1}, {1, 2, 3, 4, 5, 6, 7}},
	}
}

// peakGrids has the grids on which the promises of the chapter are checked. Those of many cells are fewer than in
// the chapters before, since many of the promises are about two or three cells of a grid.
func peakGrids() [][][]int {
	all := append(append(append(sampleGrids(), poolGrids()...), shapes()...), equalGrids()...)
	for _, g := range smallGrids() {
		if len(heightsOf(g)) <= 9 {
			all = append(all, g)
		}
	}
	for rows := 1; rows <= 7; rows++ {
		for cols := 1; cols <= 7; cols++ {
			for seed, few := range []int{2, 3, 5, 9, 30, 100} {
				all = append(all, steps(rows, cols, few, 1000*rows+10*cols+seed))
			}
		}
	}
	return all
}

// atEachPeak calls a check for each grid of peakGrids with each of its peaks.
func atEachPeak(check func(g [][]int, peak int)) {
	for _, g := range peakGrids() {
		for _, peak := range peaksOf(g) {
			check(g, peak)
		}
	}
}

// passes returns PassBetween of all cells.
func passes(g [][]int) [][]int {
	cells := len(heightsOf(g))
	return fill(cells, cells, func(k int) int { return impl.PassBetween(g, k/cells, k%cells) })
}

// way is for cells with which PassWay succeeds.
func way(t *testing.T, g [][]int, a, b int) []int {
	t.Helper()
	x, ok := impl.PassWay(g, a, b)
	if !ok {
		t.Fatalf("PassWay(%v, %d, %d) failed", g, a, b)
	}
	return x
}

// noCells has numbers that are no index of a cell of a grid.
func noCells(g [][]int) []int {
	var none []int
	for _, n := range append(oddNumbers(), len(heightsOf(g)), len(heightsOf(g))+1) {
		if n < 0 || n >= len(heightsOf(g)) {
			none = append(none, n)
		}
	}
	return none
}

type peakCount struct {
	name string
	run  func(g [][]int, i int) int
}

// peakCounts has the functions of a grid and a peak that return a number, or -1.
func peakCounts() []peakCount {
	return []peakCount{
		{"PeakKey", impl.PeakKey},
		{"PeakProminence", impl.PeakProminence},
		{"PeakParent", impl.PeakParent},
	}
}
