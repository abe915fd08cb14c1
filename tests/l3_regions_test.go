package tests

import (
	"slices"
	"testing"

	"loop.example/reliefmaps/impl"
)

// Promise 25.
func TestLevelLand(t *testing.T) {
	atEachLevel(func(g [][]int, level int) {
		cells := len(heightsOf(g))
		land := impl.LevelLand(g, level)
		if land != countLand(g, level) || level == 0 && land != cells {
			t.Fatalf("LevelLand(%v, %d) = %d, want %d", g, level, land, countLand(g, level))
		}
		if level < 99 && impl.LevelLand(g, level+1) > land {
			t.Fatalf("LevelLand(%v, %d) = %d is less than that of the next level", g, level, land)
		}
		if level == 0 {
			return
		}
		x, ok := impl.GridInvert(g)
		if water := impl.LevelLand(x, 99-level+1); !ok || water != cells-land {
			t.Fatalf("LevelLand(%v, %d) = %d, but %d of the inverted grid", g, level, land, water)
		}
	})
}

// Promise 26.
func TestLevelRegions(t *testing.T) {
	atEachLevel(func(g [][]int, level int) {
		regions, land := impl.LevelRegions(g, level), impl.LevelLand(g, level)
		if want := len(regionsOf(g, level)); regions != want {
			t.Fatalf("LevelRegions(%v, %d) = %d, want %d", g, level, regions, want)
		}
		if regions > land || (regions == 0) != (land == 0) {
			t.Fatalf("LevelRegions(%v, %d) = %d with %d land cells", g, level, regions, land)
		}
		if impl.LevelRegions(turn(t, g), level) != regions || impl.LevelRegions(mirror(t, g), level) != regions {
			t.Fatalf("LevelRegions(%v, %d) = %d, and another number turned or mirrored", g, level, regions)
		}
	})
}

// Promise 27: numbers written out.
func TestLevelNumbersByHand(t *testing.T) {
	for _, x := range []struct {
		text string
		want []int
	}{
		{"#", []int{0}},
		{".", []int{-1}},
		{"#.##.#.", []int{0, -1, 1, 1, -1, 2, -1}},
		{"#/./#/#/.", []int{0, -1, 1, 1, -1}},
		{"#./.#", []int{0, -1, -1, 1}},
		{".#/#.", []int{-1, 0, 1, -1}},
		{"#.#/###", []int{0, -1, 0, 0, 0, 0}},
		{"#.#/#.#", []int{0, -1, 1, 0, -1, 1}},
		// The region with the least cell comes first, though it is the one that has the last cell, too.
		{"..#/#.#/###", []int{-1, -1, 0, 0, -1, 0, 0, 0, 0}},
		{"..#.#/#.#.#/###.#", []int{-1, -1, 0, -1, 1, 0, -1, 0, -1, 1, 0, 0, 0, -1, 1}},
		{"#.#.#/..#.#/###.#", []int{0, -1, 1, -1, 2, -1, -1, 1, -1, 2, 1, 1, 1, -1, 2}},
		{"#.#.#.#/#.#.#.#/#.###.#/#.....#/#######", []int{
			0, -1, 1, -1, 1, -1, 0,
			0, -1, 1, -1, 1, -1, 0,
			0, -1, 1, 1, 1, -1, 0,
			0, -1, -1, -1, -1, -1, 0,
			0, 0, 0, 0, 0, 0, 0}},
		{"#####/#...#/#.#.#/#...#/#####", []int{
			0, 0, 0, 0, 0,
			0, -1, -1, -1, 0,
			0, -1, 1, -1, 0,
			0, -1, -1, -1, 0,
			0, 0, 0, 0, 0}},
		{"#.#.#/.#.#./#.#.#", []int{0, -1, 1, -1, 2, -1, 3, -1, 4, -1, 5, -1, 6, -1, 7}},
	} {
		got, ok := impl.LevelNumbers(drawn(x.text), 5)
		if !ok || !slices.Equal(got, x.want) {
			t.Errorf("LevelNumbers of %s is %v, %v; want %v", x.text, got, ok, x.want)
		}
	}
}

// Promise 27.
func TestLevelNumbers(t *testing.T) {
	atEachLevel(func(g [][]int, level int) {
		list := numbers(t, g, level)
		if !slices.Equal(list, numbersOf(g, level)) {
			t.Fatalf("LevelNumbers(%v, %d) = %v, want %v", g, level, list, numbersOf(g, level))
		}
		next := 0
		for i, h := range heightsOf(g) {
			if (list[i] == -1) != (h < level) || list[i] > next {
				t.Fatalf("LevelNumbers(%v, %d) = %v is wrong at the cell %d", g, level, list, i)
			}
			next = max(next, list[i]+1)
			for _, n := range besides(g, i) {
				if list[i] != -1 && list[n] != -1 && list[n] != list[i] {
					t.Fatalf("LevelNumbers(%v, %d) = %v is two numbers at %d and %d", g, level, list, i, n)
				}
			}
		}
		if next != impl.LevelRegions(g, level) {
			t.Fatalf("LevelNumbers(%v, %d) = %v for %d regions", g, level, list, impl.LevelRegions(g, level))
		}
	})
}

// Promise 27: lists that are no grid, and numbers that are no level.
func TestLevelNumbersRefuses(t *testing.T) {
	for name, bad := range badGrids() {
		for _, level := range append(noLevels(), 0, 1, 50, 99) {
			x, ok := impl.LevelNumbers(bad, level)
			wantNoList(t, "LevelNumbers of "+name, x, ok)
		}
	}
	for _, g := range sampleGrids() {
		for _, level := range noLevels() {
			x, ok := impl.LevelNumbers(g, level)
			wantNoList(t, "LevelNumbers of no level", x, ok)
		}
	}
}

// Promise 28: areas written out.
func TestLevelAreaByHand(t *testing.T) {
	for _, x := range []struct {
		text string
		want []int
	}{
		{"#", []int{1}},
		{".", nil},
		{"#.##.#.", []int{1, 2, 1}},
		{"..#.#/#.#.#/###.#", []int{6, 3}},
		{"##./##./..#", []int{4, 1}},
		{"#####/#...#/#.#.#/#...#/#####", []int{16, 1}},
		{"#######/#.....#/#.###.#/#.#.#.#/#.###.#/#.....#/#######", []int{24, 8}},
		{"#######/#######/#######/#######/#######/#######/#######", []int{49}},
	} {
		g := drawn(x.text)
		for number, want := range append(x.want, -1, -1) {
			if got := impl.LevelArea(g, 5, number); got != want {
				t.Errorf("LevelArea of %s and the region %d is %d, want %d", x.text, number, got, want)
			}
		}
	}
}

// Promise 28.
func TestLevelArea(t *testing.T) {
	atEachLevel(func(g [][]int, level int) {
		regions := regionsOf(g, level)
		sum := 0
		for number, region := range regions {
			area := impl.LevelArea(g, level, number)
			if area != len(region) || area < 1 {
				t.Fatalf("LevelArea(%v, %d, %d) = %d, want %d", g, level, number, area, len(region))
			}
			sum += area
		}
		if sum != impl.LevelLand(g, level) {
			t.Fatalf("the areas of %v at the level %d are %d together", g, level, sum)
		}
		// The number of water in LevelNumbers, -1, is that of no region.
		for _, number := range []int{-2, -1, len(regions), len(regions) + 1} {
			if got := impl.LevelArea(g, level, number); got != -1 {
				t.Fatalf("LevelArea(%v, %d, %d) = %d", g, level, number, got)
			}
		}
	})
}

// Promise 28: numbers of no region, lists that are no grid, and numbers that are no level.
func TestLevelAreaRefuses(t *testing.T) {
	for _, g := range append(shapes(), mixedGrids()...) {
		for _, level := range []int{0, 4, 5, 6, 50, 99} {
			for _, number := range oddNumbers() {
				if number >= 0 && number < len(regionsOf(g, level)) {
					continue
				}
				if got := impl.LevelArea(g, level, number); got != -1 {
					t.Errorf("LevelArea(%v, %d, %d) = %d", g, level, number, got)
				}
			}
		}
		for _, level := range noLevels() {
			for _, number := range oddNumbers() {
				if got := impl.LevelArea(g, level, number); got != -1 {
					t.Errorf("LevelArea(%v, %d, %d) = %d", g, level, number, got)
				}
			}
		}
	}
	for name, bad := range badGrids() {
		for _, number := range oddNumbers() {
			if got := impl.LevelArea(bad, 0, number); got != -1 {
				t.Errorf("LevelArea of %s and the region %d is %d", name, number, got)
			}
		}
	}
}
