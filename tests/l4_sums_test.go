package tests

import (
	"slices"
	"testing"

	"loop.example/reliefmaps/impl"
)

// Promise 45: numbers of peaks written out, by the numbers of the regions.
func TestPeakIslandByHand(t *testing.T) {
	for _, x := range []struct {
		g     [][]int
		level int
		want  []int
	}{
		{[][]int{{9, 2, 7, 3, 8}}, 0, []int{3}},
		{[][]int{{9, 2, 7, 3, 8}}, 2, []int{3}},
		{[][]int{{9, 2, 7, 3, 8}}, 3, []int{1, 2}},
		{[][]int{{9, 2, 7, 3, 8}}, 4, []int{1, 1, 1}},
		{[][]int{{9, 2, 7, 3, 8}}, 8, []int{1, 1}},
		{[][]int{{9, 2, 7, 3, 8}}, 9, []int{1}},
		{[][]int{{9, 2, 7, 3, 8}}, 10, nil},
		{[][]int{{9, 2, 7, 3, 8}}, 99, nil},
		{[][]int{{0}}, 0, []int{1}},
		{[][]int{{0}}, 1, nil},
		{[][]int{{99}}, 99, []int{1}},
		{[][]int{{5, 1, 5}, {5, 5, 5}}, 5, []int{2}},
		{[][]int{{5, 5}, {5, 5}}, 5, []int{1}},
		{[][]int{{99, 0, 99}, {0, 99, 0}, {99, 0, 99}}, 99, []int{1, 1, 1, 1, 1}},
		{[][]int{{99, 0, 99}, {0, 99, 0}, {99, 0, 99}}, 0, []int{5}},
		// The first region has two peaks at its end, and one on the flat at its beginning.
		{[][]int{{3, 0, 9}, {3, 0, 0}, {4, 3, 4}}, 3, []int{3, 1}},
	} {
		for number, want := range append(x.want, -1, -1) {
			if got := impl.PeakIsland(x.g, x.level, number); got != want {
				t.Errorf("PeakIsland(%v, %d, %d) = %d, want %d", x.g, x.level, number, got, want)
			}
		}
	}
}

// Promise 45.
func TestPeakIsland(t *testing.T) {
	for _, g := range peakGrids() {
		peaks, h := peaksOf(g), heightsOf(g)
		for _, level := range spread(levelsOf(g), 9) {
			sum := 0
			regions := regionsOf(g, level)
			for number, region := range regions {
				want := 0
				for _, peak := range peaks {
					if slices.Contains(region, peak) {
						want++
					}
				}
				got := impl.PeakIsland(g, level, number)
				if got != want || got < 1 || got > impl.LevelArea(g, level, number) {
					t.Fatalf("PeakIsland(%v, %d, %d) = %d, want %d", g, level, number, got, want)
				}
				sum += got
			}
			all := len(slices.DeleteFunc(slices.Clone(peaks), func(i int) bool { return h[i] < level }))
			if sum != all {
				t.Fatalf("all regions of %v at the level %d have %d peaks, want %d", g, level, sum, all)
			}
			for _, number := range []int{-2, -1, len(regions), len(regions) + 1} {
				if got := impl.PeakIsland(g, level, number); got != -1 {
					t.Fatalf("PeakIsland(%v, %d, %d) = %d", g, level, number, got)
				}
			}
		}
	}
}

// Promise 45: numbers of no region, numbers that are no level, and lists that are no grid.
func TestPeakIslandRefuses(t *testing.T) {
	for _, g := range append(shapes(), mixedGrids()...) {
		for _, number := range oddNumbers() {
			for _, level := range []int{0, 5, 99} {
				if number >= 0 && number < len(regionsOf(g, level)) {
					continue
				}
				if got := impl.PeakIsland(g, level, number); got != -1 {
					t.Errorf("PeakIsland(%v, %d, %d) = %d", g, level, number, got)
				}
			}
			for _, level := range noLevels() {
				if got := impl.PeakIsland(g, level, number); got != -1 {
					t.Errorf("PeakIsland(%v, %d, %d) = %d", g, level, number, got)
				}
			}
		}
	}
	for name, bad := range badGrids() {
		for _, level := range append(noLevels(), 0, 1, 99) {
			for _, number := range []int{-1, 0, 1} {
				if got := impl.PeakIsland(bad, level, number); got != -1 {
					t.Errorf("PeakIsland of %s is %d at the level %d", name, got, level)
				}
			}
		}
	}
}

// Promise 47.
func TestPeaksCountRegions(t *testing.T) {
	for _, g := range peakGrids() {
		h := heightsOf(g)
		for _, level := range levelsOf(g) {
			if level <= slices.Min(h) {
				continue
			}
			count := 0
			for _, peak := range impl.PeakList(g) {
				if h[peak] >= level && impl.PeakKey(g, peak) < level {
					count++
				}
			}
			if got := impl.LevelRegions(g, level); got != count {
				t.Fatalf("LevelRegions(%v, %d) = %d, but %d peaks reach from below the level", g, level, got, count)
			}
		}
	}
}

// Promise 48: sums written out.
func TestPeakSumByHand(t *testing.T) {
	for _, x := range []struct {
		g    [][]int
		want int
	}{
		{[][]int{{0}}, 0},
		{[][]int{{99}}, 0},
		{[][]int{{7, 7}, {7, 7}}, 0},
		{[][]int{{0, 99}}, 99},
		{[][]int{{9, 2, 7, 3, 8}}, 17},
		{[][]int{{9}, {2}, {7}, {3}, {8}}, 17},
		{[][]int{{5, 1, 5}}, 8},
		{[][]int{{5, 1, 5}, {5, 5, 5}}, 4},
		{[][]int{{9, 3, 9, 5, 9}}, 16},
		{[][]int{{9, 1, 1, 7}, {4, 1, 6, 3}, {5, 5, 2, 1}}, 17},
		{[][]int{{99, 0, 99}, {0, 99, 0}, {99, 0, 99}}, 495},
		// The greatest sum of all: 25 peaks of a prominence of 99.
		{fill(7, 7, func(i int) int { return 99 * (1 - i%2) }), 2475},
	} {
		if got := impl.PeakSum(x.g); got != x.want {
			t.Errorf("PeakSum(%v) = %d, want %d", x.g, got, x.want)
		}
	}
}

// Promise 48.
func TestPeakSum(t *testing.T) {
	for _, g := range peakGrids() {
		got, sum := impl.PeakSum(g), 0
		for _, peak := range impl.PeakList(g) {
			sum += impl.PeakProminence(g, peak)
		}
		if got != sum {
			t.Fatalf("PeakSum(%v) = %d, want %d", g, got, sum)
		}
		least, greatest, ok := impl.GridRange(g)
		regions := 0
		for level := least + 1; level <= greatest; level++ {
			regions += impl.LevelRegions(g, level)
		}
		if !ok || got != regions {
			t.Fatalf("PeakSum(%v) = %d, but the levels have %d regions together", g, got, regions)
		}
	}
	for name, bad := range badGrids() {
		if got := impl.PeakSum(bad); got != -1 {
			t.Errorf("PeakSum of %s is %d", name, got)
		}
	}
}
