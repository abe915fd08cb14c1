package tests

import (
	"testing"

	"loop.example/reliefmaps/impl"
)

// peakLists has the calls of the chapter that return a list.
func peakLists() []listCall {
	return []listCall{
		{"PeakList", func(g [][]int) ([]int, bool) { return impl.PeakList(g), true }},
		{"PassWay to the same cell", func(g [][]int) ([]int, bool) { return impl.PassWay(g, 0, 0) }},
		{"PassWay to the last cell", func(g [][]int) ([]int, bool) { return impl.PassWay(g, 0, len(heightsOf(g))-1) }},
		{"PassWay from the last cell", func(g [][]int) ([]int, bool) { return impl.PassWay(g, len(heightsOf(g))-1, 0) }},
		{"PeakMost of 0", func(g [][]int) ([]int, bool) { return impl.PeakMost(g, 0), true }},
		{"PeakMost of 5", func(g [][]int) ([]int, bool) { return impl.PeakMost(g, 5), true }},
		{"PeakMost of 100", func(g [][]int) ([]int, bool) { return impl.PeakMost(g, 100), true }},
		{"PitList", func(g [][]int) ([]int, bool) { return impl.PitList(g), true }},
	}
}

// peakReaders has calls of the chapter that return no list.
func peakReaders() []peakCount {
	return append(peakCounts(),
		peakCount{"PeakIs", func(g [][]int, i int) int {
			if impl.PeakIs(g, i) {
				return 1
			}
			return 0
		}},
		peakCount{"PassBetween", func(g [][]int, i int) int { return impl.PassBetween(g, i, 0) }},
		peakCount{"PeakFlood", func(g [][]int, i int) int { return impl.PeakFlood(g, 0, i) }},
		peakCount{"PeakIsland", func(g [][]int, i int) int { return impl.PeakIsland(g, i, 0) }},
		peakCount{"PeakSum", func(g [][]int, _ int) int { return impl.PeakSum(g) }})
}

// Promises 38, 40, 44 and 49.
func TestPeakListMemory(t *testing.T) {
	for _, call := range peakLists() {
		for _, g := range append(append(sampleGrids(), shapes()...), equalGrids()...) {
			checkListMemory(t, call, g)
		}
	}
}

// Promises 37, 39, 41 to 43, and 45 to 48: what returns no list leaves its argument alone, and answers the same again.
func TestPeakReadersChangeNothing(t *testing.T) {
	for _, count := range peakReaders() {
		for _, g := range append(append(sampleGrids(), shapes()...), equalGrids()...) {
			for _, i := range []int{-1, 0, 3, 24, 48, 49} {
				x := roomy(g)
				first := count.run(x, i)
				if !roomyStays(x, g) {
					t.Fatalf("%s changed its argument %v", count.name, g)
				}
				if again := count.run(x, i); again != first {
					t.Fatalf("%s of %v and %d is %d, then %d", count.name, g, i, first, again)
				}
			}
		}
	}
}

// Invalid arguments stay as they are.
func TestBadGridsStayInPeaks(t *testing.T) {
	for name, bad := range badGrids() {
		kept := cloneGrid(bad)
		for _, count := range peakReaders() {
			count.run(bad, 0)
		}
		for _, call := range peakLists() {
			call.run(bad)
		}
		if !sameGrid(bad, kept) {
			t.Errorf("%s changed", name)
		}
	}
}
