package tests

import (
	"math"
	"slices"
	"testing"

	"loop.example/reliefmaps/impl"
)

// Promises 41 to 43: keys and parents written out, for the peaks by rank.
func TestPeakKeyByHand(t *testing.T) {
	for _, x := range []struct {
		g                    [][]int
		peaks, keys, parents []int
	}{
		{[][]int{{0}}, []int{0}, []int{0}, []int{0}},
		{[][]int{{99}}, []int{0}, []int{99}, []int{0}},
		{[][]int{{5, 5, 5}}, []int{0}, []int{5}, []int{0}},
		{[][]int{{9, 2, 7, 3, 8}}, []int{0, 4, 2}, []int{2, 2, 3}, []int{0, 0, 4}},
		{[][]int{{9}, {2}, {7}, {3}, {8}}, []int{0, 4, 2}, []int{2, 2, 3}, []int{0, 0, 4}},
		// Equally high peaks.
		{[][]int{{5, 1, 5}}, []int{0, 2}, []int{1, 1}, []int{0, 0}},
		{[][]int{{5, 1, 5}, {5, 5, 5}}, []int{0, 2}, []int{1, 5}, []int{0, 0}},
		{[][]int{{1, 5}, {5, 5}}, []int{1, 2}, []int{1, 5}, []int{1, 1}},
		{[][]int{{9, 3, 9, 5, 9}}, []int{0, 2, 4}, []int{3, 3, 5}, []int{0, 0, 2}},
		{[][]int{{0, 9, 0, 9, 0}}, []int{1, 3}, []int{0, 0}, []int{1, 1}},
		{[][]int{{99, 0, 99}, {0, 99, 0}, {99, 0, 99}}, []int{0, 2, 4, 6, 8}, []int{0, 0, 0, 0, 0}, []int{0, 0, 0, 0, 0}},
		// Several peaks with one key.
		{[][]int{{5, 2, 9, 2, 7}}, []int{2, 4, 0}, []int{2, 2, 2}, []int{2, 2, 2}},
		// A parent that is not the nearest higher peak.
		{[][]int{{9, 3, 6, 3, 5}}, []int{0, 2, 4}, []int{3, 3, 3}, []int{0, 0, 0}},
		{[][]int{{5, 4, 6, 3, 9}}, []int{4, 2, 0}, []int{3, 3, 4}, []int{4, 4, 2}},
		{[][]int{{9, 4, 6, 4, 5, 3, 7}}, []int{0, 6, 2, 4}, []int{3, 3, 4, 4}, []int{0, 0, 0, 0}},
		{[][]int{{9, 1, 1, 7}, {4, 1, 6, 3}, {5, 5, 2, 1}}, []int{0, 3, 6, 8}, []int{1, 2, 3, 4}, []int{0, 0, 3, 0}},
		// The least height is not between the highest peak and another one.
		{[][]int{{1, 9, 5, 8}}, []int{1, 3}, []int{1, 5}, []int{1, 1}},
		{[][]int{{9, 8, 0}}, []int{0}, []int{0}, []int{0}},
	} {
		if got := impl.PeakList(x.g); !slices.Equal(got, x.peaks) {
			t.Errorf("PeakList(%v) = %v, want %v", x.g, got, x.peaks)
		}
		for k, i := range x.peaks {
			if got := impl.PeakKey(x.g, i); got != x.keys[k] {
				t.Errorf("PeakKey(%v, %d) = %d, want %d", x.g, i, got, x.keys[k])
			}
			if got, want := impl.PeakProminence(x.g, i), heightsOf(x.g)[i]-x.keys[k]; got != want {
				t.Errorf("PeakProminence(%v, %d) = %d, want %d", x.g, i, got, want)
			}
			if got := impl.PeakParent(x.g, i); got != x.parents[k] {
				t.Errorf("PeakParent(%v, %d) = %d, want %d", x.g, i, got, x.parents[k])
			}
		}
	}
}

// Promise 41.
func TestPeakKey(t *testing.T) {
	atEachPeak(func(g [][]int, peak int) {
		key, h := impl.PeakKey(g, peak), heightsOf(g)
		if want := keyOf(g, peak); key != want || key > h[peak] {
			t.Fatalf("PeakKey(%v, %d) = %d, want %d", g, peak, key, want)
		}
		greatest := slices.Min(h)
		for i := range h {
			if higher(g, i, peak) {
				greatest = max(greatest, impl.PassBetween(g, peak, i))
			}
		}
		if key != greatest {
			t.Fatalf("PeakKey(%v, %d) = %d, but the greatest PassBetween is %d", g, peak, key, greatest)
		}
	})
}

// Promise 42.
func TestPeakProminence(t *testing.T) {
	atEachPeak(func(g [][]int, peak int) {
		got, h := impl.PeakProminence(g, peak), heightsOf(g)
		if got < 0 || got+impl.PeakKey(g, peak) != h[peak] {
			t.Fatalf("PeakProminence(%v, %d) = %d with the key %d", g, peak, got, impl.PeakKey(g, peak))
		}
		if peak == slices.Index(h, slices.Max(h)) && got != slices.Max(h)-slices.Min(h) {
			t.Fatalf("PeakProminence(%v, %d) = %d is not the range of heights", g, peak, got)
		}
		x, ok := impl.GridRaise(g, 1)
		if ok && impl.PeakProminence(x, peak) != got {
			t.Fatalf("PeakProminence(%v, %d) = %d, but %d with all heights 1 greater", g, peak, got, impl.PeakProminence(x, peak))
		}
	})
}

// Promise 43.
func TestPeakParent(t *testing.T) {
	atEachPeak(func(g [][]int, peak int) {
		parent, first := impl.PeakParent(g, peak), impl.PeakList(g)[0]
		if want := parentOf(g, peak); parent != want {
			t.Fatalf("PeakParent(%v, %d) = %d, want %d", g, peak, parent, want)
		}
		if !impl.PeakIs(g, parent) || peak != first && !higher(g, parent, peak) || peak == first && parent != peak {
			t.Fatalf("PeakParent(%v, %d) = %d is no higher peak", g, peak, parent)
		}
		if impl.PassBetween(g, peak, parent) < impl.PeakKey(g, peak) {
			t.Fatalf("PeakParent(%v, %d) = %d is behind a pass lower than the key", g, peak, parent)
		}
		for range impl.CellsMax {
			peak = impl.PeakParent(g, peak)
		}
		if peak != first {
			t.Fatalf("the parents in %v lead to %d, not to %d", g, peak, first)
		}
	})
}

// Promises 41 to 43: cells that are no peaks, indexes that are none, and lists that are no grid.
func TestPeakCountsRefuse(t *testing.T) {
	for _, count := range peakCounts() {
		for _, g := range peakGrids() {
			for i := range heightsOf(g) {
				if got := count.run(g, i); (got == -1) == isPeakOf(g, i) {
					t.Fatalf("%s(%v, %d) = %d", count.name, g, i, got)
				}
			}
		}
		for _, g := range sampleGrids() {
			for _, i := range noCells(g) {
				if got := count.run(g, i); got != -1 {
					t.Errorf("%s(%v, %d) = %d", count.name, g, i, got)
				}
			}
		}
		for name, bad := range badGrids() {
			for _, i := range oddNumbers() {
				if got := count.run(bad, i); got != -1 {
					t.Errorf("%s of %s and %d is %d", count.name, name, i, got)
				}
			}
		}
	}
}

// Promise 44: peaks written out.
func TestPeakMostByHand(t *testing.T) {
	hills := [][]int{{9, 1, 1, 7}, {4, 1, 6, 3}, {5, 5, 2, 1}}
	flat := [][]int{{5, 1, 5}, {5, 5, 5}}
	for _, x := range []struct {
		g     [][]int
		least int
		want  []int
	}{
		{hills, math.MinInt, []int{0, 3, 6, 8}},
		{hills, -1, []int{0, 3, 6, 8}},
		{hills, 0, []int{0, 3, 6, 8}},
		{hills, 1, []int{0, 3, 6, 8}},
		{hills, 2, []int{0, 3, 6}},
		{hills, 3, []int{0, 3, 6}},
		{hills, 4, []int{0, 3}},
		{hills, 5, []int{0, 3}},
		{hills, 6, []int{0}},
		{hills, 8, []int{0}},
		{hills, 9, nil},
		{hills, math.MaxInt, nil},
		{flat, 0, []int{0, 2}},
		{flat, 1, []int{0}},
		{[][]int{{9, 3, 9, 5, 9}}, 4, []int{0, 2, 4}},
		{[][]int{{9, 3, 9, 5, 9}}, 5, []int{0, 2}},
		// The one with the lesser prominence is ranked higher.
		{[][]int{{9, 7, 8, 1, 6}}, 1, []int{0, 2, 4}},
		{[][]int{{9, 7, 8, 1, 6}}, 2, []int{0, 4}},
		{[][]int{{5}}, 0, []int{0}},
		{[][]int{{5}}, 1, nil},
		{[][]int{{0, 99}}, 99, []int{1}},
		{[][]int{{0, 99}}, 100, nil},
	} {
		if got := impl.PeakMost(x.g, x.least); !slices.Equal(got, x.want) {
			t.Errorf("PeakMost(%v, %d) = %v, want %v", x.g, x.least, got, x.want)
		}
	}
}

// Promise 44.
func TestPeakMost(t *testing.T) {
	for _, g := range peakGrids() {
		peaks := peaksOf(g)
		prominences := map[int]int{}
		leasts := []int{math.MinInt, -100, -1, 0, 1, 99, 100, math.MaxInt}
		for _, peak := range peaks {
			prominences[peak] = impl.PeakProminence(g, peak)
			leasts = append(leasts, prominences[peak], prominences[peak]+1)
		}
		for _, least := range leasts {
			got := impl.PeakMost(g, least)
			want := slices.DeleteFunc(slices.Clone(peaks), func(i int) bool { return prominences[i] < least })
			if !slices.Equal(got, want) {
				t.Fatalf("PeakMost(%v, %d) = %v, want %v", g, least, got, want)
			}
			if len(got) == 0 {
				continue
			}
			if got[0] != impl.PeakList(g)[0] {
				t.Fatalf("PeakMost(%v, %d) = %v lacks the highest peak", g, least, got)
			}
			for _, i := range impl.PeakMost(g, least+1) {
				if least < math.MaxInt && !slices.Contains(got, i) {
					t.Fatalf("PeakMost(%v, %d) = %v lacks the peak %d of the next number", g, least, got, i)
				}
			}
		}
	}
}

// Promise 44: lists that are no grid.
func TestPeakMostRefuses(t *testing.T) {
	for name, bad := range badGrids() {
		for _, least := range oddNumbers() {
			if got := impl.PeakMost(bad, least); len(got) != 0 {
				t.Errorf("PeakMost of %s and %d is %v", name, least, got)
			}
		}
	}
}
