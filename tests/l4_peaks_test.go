package tests

import (
	"slices"
	"testing"

	"loop.example/reliefmaps/impl"
)

// Promises 37, 38 and 49: peaks and pits written out.
func TestPeakListByHand(t *testing.T) {
	for _, x := range []struct {
		g           [][]int
		peaks, pits []int
	}{
		{[][]int{{0}}, []int{0}, []int{0}},
		{[][]int{{99}}, []int{0}, []int{0}},
		{[][]int{{9, 2, 7, 3, 8}}, []int{0, 4, 2}, []int{1, 3}},
		{[][]int{{9}, {2}, {7}, {3}, {8}}, []int{0, 4, 2}, []int{1, 3}},
		{[][]int{{1, 2, 3}}, []int{2}, []int{0}},
		{[][]int{{3, 2, 1}}, []int{0}, []int{2}},
		// Of equally high ones the one with the lesser index is the higher one.
		{[][]int{{5, 5, 5}}, []int{0}, []int{0}},
		{[][]int{{5}, {5}, {5}}, []int{0}, []int{0}},
		{[][]int{{5, 5}, {5, 5}}, []int{0}, []int{0}},
		{[][]int{{5, 1, 5}}, []int{0, 2}, []int{1}},
		{[][]int{{5, 1, 5, 1}}, []int{0, 2}, []int{1, 3}},
		{[][]int{{1, 5, 5, 1}}, []int{1}, []int{0, 3}},
		{[][]int{{5, 1, 1, 5}}, []int{0, 3}, []int{1}},
		{[][]int{{8, 9, 9, 8}}, []int{1}, []int{0, 3}},
		// Two cells of one flat, neither beside a cell of it with a lesser index.
		{[][]int{{5, 1, 5}, {5, 5, 5}}, []int{0, 2}, []int{1}},
		{[][]int{{1, 5}, {5, 5}}, []int{1, 2}, []int{0}},
		{[][]int{{9, 5}, {5, 5}}, []int{0}, []int{1, 2}},
		{[][]int{{5, 5}, {5, 9}}, []int{3, 0}, []int{0}},
		{[][]int{{9, 1, 1, 7}, {4, 1, 6, 3}, {5, 5, 2, 1}}, []int{0, 3, 6, 8}, []int{1, 11}},
		{[][]int{{99, 0, 99}, {0, 99, 0}, {99, 0, 99}}, []int{0, 2, 4, 6, 8}, []int{1, 3, 5, 7}},
		// A corner is no side.
		{[][]int{{1, 2}, {2, 1}}, []int{1, 2}, []int{0, 3}},
	} {
		if got := impl.PeakList(x.g); !slices.Equal(got, x.peaks) {
			t.Errorf("PeakList(%v) = %v, want %v", x.g, got, x.peaks)
		}
		if got := impl.PitList(x.g); !slices.Equal(got, x.pits) {
			t.Errorf("PitList(%v) = %v, want %v", x.g, got, x.pits)
		}
		for i := -1; i <= len(heightsOf(x.g)); i++ {
			if got := impl.PeakIs(x.g, i); got != slices.Contains(x.peaks, i) {
				t.Errorf("PeakIs(%v, %d) = %v", x.g, i, got)
			}
		}
	}
}

// Promise 37.
func TestPeakIs(t *testing.T) {
	for _, g := range peakGrids() {
		list := impl.PeakList(g)
		for i, h := range heightsOf(g) {
			is := impl.PeakIs(g, i)
			if is != isPeakOf(g, i) || is != slices.Contains(list, i) {
				t.Fatalf("PeakIs(%v, %d) = %v, and PeakList is %v", g, i, is, list)
			}
			if !is {
				continue
			}
			for _, n := range besides(g, i) {
				if higher(g, n, i) {
					t.Fatalf("PeakIs(%v, %d), but the neighbor %d is ranked higher", g, i, n)
				}
			}
			x, ok := impl.GridSet(g, i/len(g[0]), i%len(g[0]), h+1)
			if ok != (h < 99) || ok && !impl.PeakIs(x, i) {
				t.Fatalf("PeakIs(%v, %d) does not hold with the height 1 greater", g, i)
			}
		}
	}
}

// Promise 37: indexes that are none, and lists that are no grid.
func TestPeakIsRefuses(t *testing.T) {
	for _, g := range sampleGrids() {
		for _, i := range noCells(g) {
			if impl.PeakIs(g, i) {
				t.Errorf("PeakIs(%v, %d) holds", g, i)
			}
		}
	}
	for name, bad := range badGrids() {
		for _, i := range oddNumbers() {
			if impl.PeakIs(bad, i) {
				t.Errorf("PeakIs of %s and %d holds", name, i)
			}
		}
	}
}

// Promise 38.
func TestPeakList(t *testing.T) {
	for _, g := range peakGrids() {
		list := impl.PeakList(g)
		if len(list) == 0 || !slices.Equal(list, peaksOf(g)) {
			t.Fatalf("PeakList(%v) = %v, want %v", g, list, peaksOf(g))
		}
		h := heightsOf(g)
		if h[list[0]] != slices.Max(h) || list[0] != slices.Index(h, h[list[0]]) {
			t.Fatalf("PeakList(%v) = %v begins with the height %d", g, list, h[list[0]])
		}
		for k := 1; k < len(list); k++ {
			if !higher(g, list[k-1], list[k]) {
				t.Fatalf("PeakList(%v) = %v does not fall at %d", g, list, k)
			}
		}
	}
}

// Promise 38: as many peaks as there can be, in many orders.
func TestPeakListOfManyPeaks(t *testing.T) {
	for seed := range 100 {
		hills := steps(7, 7, 1+seed, seed)
		g := fill(7, 7, func(i int) int {
			if i%2 == 1 {
				return 0
			}
			return 1 + heightsOf(hills)[i]%99
		})
		list := impl.PeakList(g)
		if len(list) != 25 || !slices.Equal(list, peaksOf(g)) {
			t.Fatalf("PeakList(%v) = %v, want %v", g, list, peaksOf(g))
		}
	}
}

// Promise 49.
func TestPitList(t *testing.T) {
	for _, g := range peakGrids() {
		x, ok := impl.GridInvert(g)
		list := impl.PitList(g)
		if !ok || len(list) == 0 || !slices.Equal(list, peaksOf(x)) || !slices.Equal(list, impl.PeakList(x)) {
			t.Fatalf("PitList(%v) = %v, want %v", g, list, peaksOf(x))
		}
		h := heightsOf(g)
		for _, pit := range list {
			for _, n := range besides(g, pit) {
				if h[n] < h[pit] {
					t.Fatalf("PitList(%v) = %v, but the neighbor %d of %d is lower", g, list, n, pit)
				}
			}
		}
		for _, sink := range impl.WaterSinks(g) {
			equal := slices.ContainsFunc(besides(g, sink), func(n int) bool { return h[n] == h[sink] })
			if !equal && !slices.Contains(list, sink) {
				t.Fatalf("PitList(%v) = %v lacks the sink %d", g, list, sink)
			}
		}
	}
}

// Promises 38 and 49: lists that are no grid.
func TestPeakListsRefuse(t *testing.T) {
	for name, bad := range badGrids() {
		if got := impl.PeakList(bad); len(got) != 0 {
			t.Errorf("PeakList of %s is %v", name, got)
		}
		if got := impl.PitList(bad); len(got) != 0 {
			t.Errorf("PitList of %s is %v", name, got)
		}
	}
}
