package tests

import (
	"testing"

	"loop.example/reliefmaps/impl"
)

// Promises 25, 26 and 29 to 33: values written out, at the level 5.
func TestLevelsByHand(t *testing.T) {
	for _, x := range []struct {
		text                                               string
		land, regions, lakes, shore, corners, sides, euler int
	}{
		// One cell, one row, one column.
		{"#", 1, 1, 0, 4, 0, 0, 1},
		{".", 0, 0, 0, 0, 0, 0, 0},
		{"##", 2, 1, 0, 6, 0, 1, 1},
		{"#.#.#.#", 4, 4, 0, 16, 0, 0, 4},
		{"#/./#/./#/./#", 4, 4, 0, 16, 0, 0, 4},
		{"#######", 7, 1, 0, 16, 0, 6, 1},
		{"#/#/#/#/#/#/#", 7, 1, 0, 16, 0, 6, 1},
		{".....", 0, 0, 0, 0, 0, 0, 0},
		// Two rows or columns.
		{"##/##", 4, 1, 0, 8, 1, 4, 1},
		{"#./.#", 2, 2, 0, 8, 0, 0, 2},
		{".#/#.", 2, 2, 0, 8, 0, 0, 2},
		{"##/#.", 3, 1, 0, 8, 0, 2, 1},
		{"###/#.#", 5, 1, 0, 12, 0, 4, 1},
		{"##/.#/##", 5, 1, 0, 12, 0, 4, 1},
		// Regions that touch at a corner only.
		{"#.#/.#./#.#", 5, 5, 0, 20, 0, 0, 5},
		{"##./##./..#", 5, 2, 0, 12, 1, 4, 2},
		{"..#/##./##.", 5, 2, 0, 12, 1, 4, 2},
		// A lake, and water that touches the border at a corner only, at each of the four.
		{"###/#.#/###", 8, 1, 1, 16, 0, 8, 0},
		{".##/#.#/###", 7, 1, 0, 16, 0, 6, 1},
		{"##./#.#/###", 7, 1, 0, 16, 0, 6, 1},
		{"###/#.#/.##", 7, 1, 0, 16, 0, 6, 1},
		{"###/#.#/##.", 7, 1, 0, 16, 0, 6, 1},
		{"###/#.#/#.#", 7, 1, 0, 16, 0, 6, 1},
		{"###/..#/###", 7, 1, 0, 16, 0, 6, 1},
		{".#./#.#/.#.", 4, 4, 0, 16, 0, 0, 4},
		{"####/##.#/#.../####", 12, 1, 0, 24, 1, 12, 1},
		// Water inside that touches at a corner only is one lake; two cells apart, it is two.
		{"####/#.##/##.#/####", 14, 1, 1, 24, 2, 16, 0},
		{"####/##.#/#.##/####", 14, 1, 1, 24, 2, 16, 0},
		{"####/#..#/####", 10, 1, 1, 20, 0, 10, 0},
		{"#####/#.#.#/#####", 13, 1, 2, 24, 0, 14, -1},
		{"###/#.#/###/#.#/###", 13, 1, 2, 24, 0, 14, -1},
		{"#####/#.#.#/##.##/#.#.#/#####", 20, 1, 1, 40, 0, 20, 0},
		// Lakes with islands, rings in rings, and a ring that is open at a corner only.
		{"#####/#...#/#.#.#/#...#/#####", 17, 2, 1, 36, 0, 16, 1},
		{"#######/#.....#/#.###.#/#.#.#.#/#.###.#/#.....#/#######", 32, 2, 2, 64, 0, 32, 0},
		{"#######/#.....#/#.###.#/#.#.#.#/#.##..#/#.....#/#######", 31, 2, 1, 64, 0, 30, 1},
		// All land, and all but one cell.
		{"###/###/###/###", 12, 1, 0, 14, 6, 17, 1},
		{"#######/#######/#######/#######/#######/#######/#######", 49, 1, 0, 28, 36, 84, 1},
		{"#######/#######/#######/###.###/#######/#######/#######", 48, 1, 1, 32, 32, 80, 0},
		{"......./......./......./......./......./......./.......", 0, 0, 0, 0, 0, 0, 0},
		{"......./......./......./...#.../......./......./.......", 1, 1, 0, 4, 0, 0, 1},
	} {
		g := drawn(x.text)
		for _, count := range []struct {
			name      string
			got, want int
		}{
			{"LevelLand", impl.LevelLand(g, 5), x.land},
			{"LevelRegions", impl.LevelRegions(g, 5), x.regions},
			{"LevelLakes", impl.LevelLakes(g, 5), x.lakes},
			{"LevelShore", impl.LevelShore(g, 5), x.shore},
			{"LevelCorners", impl.LevelCorners(g, 5), x.corners},
			{"LevelSides", impl.LevelSides(g, 5), x.sides},
			{"LevelEuler", impl.LevelEuler(g, 5), x.euler},
		} {
			if count.got != count.want {
				t.Errorf("%s of %s is %d, want %d", count.name, x.text, count.got, count.want)
			}
		}
	}
}

// Promises 25 and 26: heights of more than two kinds, and the least and the greatest level, written out.
func TestLevelsOfHeights(t *testing.T) {
	for _, x := range []struct {
		g                    [][]int
		level, land, regions int
	}{
		{[][]int{{0}}, 0, 1, 1},
		{[][]int{{0}}, 1, 0, 0},
		{[][]int{{99}}, 99, 1, 1},
		{[][]int{{98}}, 99, 0, 0},
		{[][]int{{0, 99}, {99, 98}}, 0, 4, 1},
		{[][]int{{0, 99}, {99, 98}}, 1, 3, 1},
		{[][]int{{0, 99}, {99, 98}}, 98, 3, 1},
		{[][]int{{0, 99}, {99, 98}}, 99, 2, 2},
		{[][]int{{3, 1, 3}}, 1, 3, 1},
		{[][]int{{3, 1, 3}}, 2, 2, 2},
		{[][]int{{3, 1, 3}}, 3, 2, 2},
		{[][]int{{3, 1, 3}}, 4, 0, 0},
		{[][]int{{5, 5, 5, 0}, {5, 1, 5, 0}, {5, 5, 5, 6}}, 5, 9, 1},
		{[][]int{{5, 5, 5, 0}, {5, 1, 5, 0}, {5, 5, 5, 6}}, 6, 1, 1},
	} {
		if got := impl.LevelLand(x.g, x.level); got != x.land {
			t.Errorf("LevelLand(%v, %d) = %d, want %d", x.g, x.level, got, x.land)
		}
		if got := impl.LevelRegions(x.g, x.level); got != x.regions {
			t.Errorf("LevelRegions(%v, %d) = %d, want %d", x.g, x.level, got, x.regions)
		}
	}
}

// Promises 25 to 33: lists that are no grid, and numbers that are no level.
func TestLevelsOfNoGridAndNoLevel(t *testing.T) {
	for _, count := range levelCounts() {
		for name, bad := range badGrids() {
			for _, level := range append(noLevels(), 0, 1, 50, 99) {
				if got := count.run(bad, level); got != count.none {
					t.Errorf("%s of %s at the level %d is %d", count.name, name, level, got)
				}
			}
		}
		for _, g := range sampleGrids() {
			for _, level := range noLevels() {
				if got := count.run(g, level); got != count.none {
					t.Errorf("%s of %v at the level %d is %d", count.name, g, level, got)
				}
			}
		}
	}
}

// What the other tests check at all levels is worth no more than the grids that they check.
func TestShapesAreGrids(t *testing.T) {
	for _, g := range shapes() {
		if !impl.GridValid(g) {
			t.Errorf("%v is no grid", g)
		}
	}
}
