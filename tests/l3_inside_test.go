package tests

import (
	"slices"
	"testing"

	"loop.example/reliefmaps/impl"
)

// Promises 34 and 35: values written out.
func TestLevelGreatestAndWholeByHand(t *testing.T) {
	for _, x := range []struct {
		g               [][]int
		greatest, whole int
	}{
		{[][]int{{0}}, 0, 0},
		{[][]int{{99}}, 99, 99},
		{[][]int{{42}}, 42, 42},
		{[][]int{{5, 5, 5, 0}, {5, 1, 5, 0}, {5, 5, 5, 6}}, 6, 6},
		{[][]int{{3, 1, 3}}, 3, 1},
		{[][]int{{3}, {1}, {3}}, 3, 1},
		{[][]int{{1, 3, 1}}, 3, 3},
		{[][]int{{99, 0}, {0, 99}}, 99, 0},
		{[][]int{{99, 98}, {0, 99}}, 99, 98},
		// One region again above the levels with two does not count.
		{[][]int{{9, 2, 5}}, 9, 2},
		{[][]int{{9, 2, 5, 0, 7, 4, 99}}, 99, 0},
		// A lake does not part the land.
		{[][]int{{7, 7, 7}, {7, 0, 7}, {7, 7, 7}}, 7, 7},
		{[][]int{{7, 7, 7}, {7, 0, 7}, {7, 6, 7}}, 7, 7},
		{[][]int{{7, 5, 7}, {7, 0, 7}, {7, 6, 7}}, 7, 6},
		{fill(7, 7, func(int) int { return 0 }), 0, 0},
		{fill(7, 7, func(int) int { return 99 }), 99, 99},
		{fill(7, 7, func(i int) int { return 99 * (i % 2) }), 99, 0},
	} {
		if got := impl.LevelGreatest(x.g); got != x.greatest {
			t.Errorf("LevelGreatest(%v) = %d, want %d", x.g, got, x.greatest)
		}
		if got := impl.LevelWhole(x.g); got != x.whole {
			t.Errorf("LevelWhole(%v) = %d, want %d", x.g, got, x.whole)
		}
	}
	for name, bad := range badGrids() {
		if got := impl.LevelGreatest(bad); got != -1 {
			t.Errorf("LevelGreatest of %s is %d", name, got)
		}
		if got := impl.LevelWhole(bad); got != -1 {
			t.Errorf("LevelWhole of %s is %d", name, got)
		}
	}
}

// Promise 34.
func TestLevelGreatest(t *testing.T) {
	for _, g := range levelGrids() {
		greatest := impl.LevelGreatest(g)
		if impl.LevelLand(g, greatest) < 1 || greatest < 99 && impl.LevelLand(g, greatest+1) != 0 {
			t.Fatalf("LevelGreatest(%v) = %d is not the greatest level with land", g, greatest)
		}
		if _, high, ok := impl.GridRange(g); !ok || high != greatest {
			t.Fatalf("LevelGreatest(%v) = %d is not the greatest height %d", g, greatest, high)
		}
	}
}

// Promise 35.
func TestLevelWhole(t *testing.T) {
	for _, g := range levelGrids() {
		whole := impl.LevelWhole(g)
		if whole < 0 || whole > impl.LevelGreatest(g) {
			t.Fatalf("LevelWhole(%v) = %d with LevelGreatest %d", g, whole, impl.LevelGreatest(g))
		}
		for _, level := range levelsOf(g) {
			if level <= whole && len(regionsOf(g, level)) != 1 {
				t.Fatalf("LevelWhole(%v) = %d, but the land of the level %d is not one region", g, whole, level)
			}
		}
		if impl.LevelRegions(g, whole) != 1 || whole < 99 && impl.LevelRegions(g, whole+1) == 1 {
			t.Fatalf("LevelWhole(%v) = %d is not the greatest level", g, whole)
		}
	}
}

// Promise 36: values written out.
func TestLevelInsideByHand(t *testing.T) {
	for _, x := range []struct {
		g            [][]int
		level, lower int
		want         []int
	}{
		{[][]int{{3, 1, 3}}, 3, 1, []int{0, 0}},
		{[][]int{{3, 1, 3}}, 3, 2, []int{0, 1}},
		{[][]int{{3, 1, 3}}, 2, 0, []int{0, 0}},
		{[][]int{{3, 1, 3}}, 1, 0, []int{0}},
		{[][]int{{3, 1, 3}}, 4, 1, nil},
		{[][]int{{3, 1, 3}}, 5, 4, nil},
		{[][]int{{3, 1, 3}}, 99, 0, nil},
		{[][]int{{99, 98, 99}}, 99, 98, []int{0, 0}},
		{[][]int{{99, 98, 99}}, 99, 0, []int{0, 0}},
		{[][]int{{1}}, 1, 0, []int{0}},
		// Regions of the lower level without any region of the level in them.
		{[][]int{{5, 0, 5, 9, 0, 9, 5}}, 9, 5, []int{1, 2}},
		{[][]int{{5}, {0}, {5}, {9}, {0}, {9}, {5}}, 9, 5, []int{1, 2}},
		{[][]int{{0, 4, 9}, {5, 0, 4}, {9, 0, 4}}, 9, 4, []int{0, 1}},
		// The number at the lower level may fall from region to region.
		{[][]int{{0, 0, 0, 0, 4}, {4, 4, 9, 0, 4}, {0, 0, 0, 0, 4}, {9, 4, 4, 4, 4}}, 9, 4, []int{1, 0}},
		{[][]int{{9, 4, 9}, {0, 0, 0}, {9, 4, 9}}, 9, 4, []int{0, 0, 1, 1}},
		{[][]int{{9, 9}, {9, 9}}, 9, 3, []int{0}},
	} {
		got, ok := impl.LevelInside(x.g, x.level, x.lower)
		if !ok || !slices.Equal(got, x.want) {
			t.Errorf("LevelInside(%v, %d, %d) = %v, %v; want %v, true", x.g, x.level, x.lower, got, ok, x.want)
		}
	}
}

// spread returns a few of a list, the first and the last one among them.
func spread(list []int, few int) []int {
	var part []int
	for k := range few {
		part = append(part, list[k*(len(list)-1)/(few-1)])
	}
	return slices.Compact(part)
}

// Promise 36.
func TestLevelInside(t *testing.T) {
	for _, g := range levelGrids() {
		levels := spread(levelsOf(g), 8)
		for k, level := range levels {
			regions := regionsOf(g, level)
			for j, lower := range levels[:k] {
				inside, ok := impl.LevelInside(g, level, lower)
				if !ok || len(inside) != len(regions) {
					t.Fatalf("LevelInside(%v, %d, %d) = %v, %v for %d regions", g, level, lower, inside, ok, len(regions))
				}
				around := numbersOf(g, lower)
				for number, region := range regions {
					for _, i := range region {
						if around[i] != inside[number] {
							t.Fatalf("LevelInside(%v, %d, %d) = %v is wrong for the cell %d", g, level, lower, inside, i)
						}
					}
				}
				if j+1 < k {
					checkOverBetween(t, g, level, levels[(j+k)/2], lower, inside)
				}
			}
		}
	}
}

// checkOverBetween fails unless LevelInside over a level between is the same.
func checkOverBetween(t *testing.T, g [][]int, level, between, lower int, inside []int) {
	t.Helper()
	upper, ok := impl.LevelInside(g, level, between)
	below, fine := impl.LevelInside(g, between, lower)
	if !ok || !fine {
		t.Fatalf("LevelInside(%v) failed with the levels %d, %d and %d", g, level, between, lower)
	}
	for number, want := range inside {
		if below[upper[number]] != want {
			t.Fatalf("LevelInside(%v) is another one from %d to %d over %d", g, level, lower, between)
		}
	}
}

// Promise 36: a second level that is not lower, numbers that are no level, and lists that are no grid.
func TestLevelInsideRefuses(t *testing.T) {
	for _, g := range [][][]int{{{0}}, {{99}}, {{3, 1, 3}}, mixed(1, 7), mixed(7, 1), mixed(7, 7)} {
		for level := range 100 {
			for lower := range 100 {
				x, ok := impl.LevelInside(g, level, lower)
				if ok != (lower < level) {
					t.Fatalf("LevelInside(%v, %d, %d) returned %v", g, level, lower, ok)
				}
				if !ok {
					wantNoList(t, "LevelInside of a level that is not lower", x, ok)
				}
			}
		}
		for _, none := range noLevels() {
			for _, level := range append(noLevels(), 0, 1, 50, 98, 99) {
				x, ok := impl.LevelInside(g, none, level)
				wantNoList(t, "LevelInside of no level", x, ok)
				x, ok = impl.LevelInside(g, level, none)
				wantNoList(t, "LevelInside of a lower one that is no level", x, ok)
			}
		}
	}
	for name, bad := range badGrids() {
		for _, levels := range [][2]int{{1, 0}, {99, 0}, {99, 98}, {50, 50}, {0, 1}, {-1, -2}, {101, 100}, {100, 5}} {
			x, ok := impl.LevelInside(bad, levels[0], levels[1])
			wantNoList(t, "LevelInside of "+name, x, ok)
		}
	}
}
