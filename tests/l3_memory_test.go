package tests

import (
	"testing"

	"loop.example/reliefmaps/impl"
)

// levelLists has the calls of the chapter that return a list.
func levelLists() []listCall {
	return []listCall{
		{"LevelNumbers at 0", func(g [][]int) ([]int, bool) { return impl.LevelNumbers(g, 0) }},
		{"LevelNumbers at 5", func(g [][]int) ([]int, bool) { return impl.LevelNumbers(g, 5) }},
		{"LevelNumbers at 99", func(g [][]int) ([]int, bool) { return impl.LevelNumbers(g, 99) }},
		{"LevelInside from 1 to 0", func(g [][]int) ([]int, bool) { return impl.LevelInside(g, 1, 0) }},
		{"LevelInside from 5 to 4", func(g [][]int) ([]int, bool) { return impl.LevelInside(g, 5, 4) }},
		{"LevelInside from 99 to 50", func(g [][]int) ([]int, bool) { return impl.LevelInside(g, 99, 50) }},
	}
}

// Promises 27 and 36.
func TestLevelListMemory(t *testing.T) {
	for _, call := range levelLists() {
		for _, g := range append(sampleGrids(), shapes()...) {
			checkListMemory(t, call, g)
		}
	}
}

// Promises 25, 26 and 28 to 35: what returns no list leaves its argument alone, and answers the same again.
func TestLevelReadersChangeNothing(t *testing.T) {
	counts := append(levelCounts(),
		levelCount{"LevelGreatest", func(g [][]int, _ int) int { return impl.LevelGreatest(g) }, -1},
		levelCount{"LevelWhole", func(g [][]int, _ int) int { return impl.LevelWhole(g) }, -1})
	for _, count := range counts {
		for _, g := range append(sampleGrids(), shapes()...) {
			for _, level := range []int{-1, 0, 5, 50, 99, 100} {
				x := roomy(g)
				first := count.run(x, level)
				if !roomyStays(x, g) {
					t.Fatalf("%s changed its argument %v", count.name, g)
				}
				if again := count.run(x, level); again != first {
					t.Fatalf("%s of %v at the level %d is %d, then %d", count.name, g, level, first, again)
				}
			}
		}
	}
}

// Invalid arguments stay as they are.
func TestBadGridsStayInLevels(t *testing.T) {
	for name, bad := range badGrids() {
		kept := cloneGrid(bad)
		for _, count := range levelCounts() {
			count.run(bad, 1)
		}
		for _, call := range levelLists() {
			call.run(bad)
		}
		impl.LevelGreatest(bad)
		impl.LevelWhole(bad)
		if !sameGrid(bad, kept) {
			t.Errorf("%s changed", name)
		}
	}
}
