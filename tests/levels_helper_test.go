package tests

import (
	"math"
	"slices"
	"strings"
	"testing"

	"loop.example/reliefmaps/impl"
)

// drawn returns a grid with the height 5 for each # and 4 for each other sign; rows have slashes between.
func drawn(text string) [][]int {
	var g [][]int
	for _, line := range strings.Split(text, "/") {
		var row []int
		for _, sign := range line {
			if sign == '#' {
				row = append(row, 5)
			} else {
				row = append(row, 4)
			}
		}
		g = append(g, row)
	}
	return g
}

// These follow the document word for word; they are for grids only.

func landOf(g [][]int, level int) []bool {
	var land []bool
	for _, h := range heightsOf(g) {
		land = append(land, h >= level)
	}
	return land
}

// touching returns the indexes of all cells that touch a cell, at a side or at a corner.
func touching(g [][]int, i int) []int {
	cols := len(g[0])
	var all []int
	for k := range heightsOf(g) {
		dr, dc := k/cols-i/cols, k%cols-i%cols
		if k != i && dr*dr <= 1 && dc*dc <= 1 {
			all = append(all, k)
		}
	}
	return all
}

// joined returns the greatest sets of cells of a kind that are joined by ways from cell to cell, by their least cells.
func joined(g [][]int, kind []bool, beside func(g [][]int, i int) []int) [][]int {
	var sets [][]int
	seen := make([]bool, len(kind))
	for start := range kind {
		if !kind[start] || seen[start] {
			continue
		}
		seen[start] = true
		set := []int{start}
		for k := 0; k < len(set); k++ {
			for _, n := range beside(g, set[k]) {
				if kind[n] && !seen[n] {
					seen[n] = true
					set = append(set, n)
				}
			}
		}
		sets = append(sets, set)
	}
	return sets
}

func regionsOf(g [][]int, level int) [][]int {
	return joined(g, landOf(g, level), besides)
}

func numbersOf(g [][]int, level int) []int {
	numbers := make([]int, len(heightsOf(g)))
	for i := range numbers {
		numbers[i] = -1
	}
	for number, region := range regionsOf(g, level) {
		for _, i := range region {
			numbers[i] = number
		}
	}
	return numbers
}

func lakesOf(g [][]int, level int) int {
	water := landOf(g, level)
	for i := range water {
		water[i] = !water[i]
	}
	lakes := 0
	for _, set := range joined(g, water, touching) {
		if !slices.ContainsFunc(set, func(i int) bool { return onBorder(g, i) }) {
			lakes++
		}
	}
	return lakes
}

func shoreOf(g [][]int, level int) int {
	shore := 0
	for r := range g {
		for c := range g[r] {
			for _, d := range [][2]int{{-1, 0}, {0, 1}, {1, 0}, {0, -1}} {
				y, x := r+d[0], c+d[1]
				none := y < 0 || y >= len(g) || x < 0 || x >= len(g[0])
				if g[r][c] >= level && (none || g[y][x] < level) {
					shore++
				}
			}
		}
	}
	return shore
}

func cornersOf(g [][]int, level int) int {
	corners := 0
	for r := 1; r < len(g); r++ {
		for c := 1; c < len(g[0]); c++ {
			if min(g[r-1][c-1], g[r-1][c], g[r][c-1], g[r][c]) >= level {
				corners++
			}
		}
	}
	return corners
}

func landSidesOf(g [][]int, level int) int {
	sides := 0
	for r := range g {
		for c := range g[r] {
			if c > 0 && min(g[r][c-1], g[r][c]) >= level {
				sides++
			}
			if r > 0 && min(g[r-1][c], g[r][c]) >= level {
				sides++
			}
		}
	}
	return sides
}

func countLand(g [][]int, level int) int {
	land := 0
	for _, is := range landOf(g, level) {
		if is {
			land++
		}
	}
	return land
}

// levelsOf has, ascending, the levels at which the land of a grid may change, those ahead of them, 0 and 99.
func levelsOf(g [][]int) []int {
	levels := []int{0, 1, 98, 99}
	for _, h := range heightsOf(g) {
		levels = append(levels, h)
		if h < 99 {
			levels = append(levels, h+1)
		}
	}
	slices.Sort(levels)
	return slices.Compact(levels)
}

// noLevels has numbers that are no level.
func noLevels() []int {
	return []int{math.MinInt, math.MinInt + 1, -1 << 32, -100, -99, -2, -1, 100, 101, 199, 255, 256, 1 << 32, 1<<32 + 5, math.MaxInt - 1, math.MaxInt}
}

// shapes has grids whose land has many shapes at the level 5: rings, lakes with islands, corners that touch, ways that wind.
func shapes() [][][]int {
	var all [][][]int
	for _, text := range []string{
		"###/#.#/###", ".##/#.#/###", "##./#.#/###", "###/#.#/.##", "###/#.#/##.", "#.#/.#./#.#", ".#./#.#/.#.", "###/#.#/#.#",
		"####/#.##/##.#/####", "####/##.#/#.##/####", "#####/#.#.#/#####", "#####/#.#.#/##.##/#.#.#/#####",
		"#####/#...#/#.#.#/#...#/#####", "#####/#.#.#/#####/#.#.#/#####", "#####/#..##/##.##/##..#/#####",
		"#######/#.....#/#.###.#/#.#.#.#/#.###.#/#.....#/#######", "#######/#.....#/#.###.#/#.#.#.#/#.##..#/#.....#/#######",
		"#######/#.#.#.#/##.#.##/#.#.#.#/##.#.##/#.#.#.#/#######", "#######/#.###.#/#######/###.###/#######/#.###.#/#######",
		"#######/......#/#####.#/#...#.#/#.###.#/#.....#/#######", ".#####./.#...#./.#.#.#./.###.#./.....#./######.", "#.#.#.#/.#.#.#./#.#.#.#/.#.#.#./#.#.#.#/.#.#.#./#.#.#.#",
		"..#.#/#.#.#/###.#", "#.#.#.#/#.#.#.#/#.#.#.#/#.#.#.#/#.#.#.#/#.#.#.#/#######", "#######/......#/#######/#....../#######",
		"#.....#/.#...#./..#.#../...#.../..#.#../.#...#./#.....#", "...#.../..#.#../.#.#.#./#.#.#.#/.#.#.#./..#.#../...#...",
		"..####/.#...#/#..#.#/#.#..#/#...#./####..",
	} {
		all = append(all, drawn(text))
	}
	return all
}

// levelGrids has the grids on which the promises of the chapter are checked.
func levelGrids() [][][]int {
	return append(waterGrids(), shapes()...)
}

// atEachLevel calls a check for each grid of levelGrids with each level of levelsOf.
func atEachLevel(check func(g [][]int, level int)) {
	for _, g := range levelGrids() {
		for _, level := range levelsOf(g) {
			check(g, level)
		}
	}
}

type levelCount struct {
	name string
	run  func(g [][]int, level int) int
	none int
}

// levelCounts has the functions of a grid and a level that return a number, with what they return for invalid arguments.
func levelCounts() []levelCount {
	return []levelCount{
		{"LevelLand", impl.LevelLand, -1},
		{"LevelRegions", impl.LevelRegions, -1},
		{"LevelArea of 0", func(g [][]int, level int) int { return impl.LevelArea(g, level, 0) }, -1},
		{"LevelLakes", impl.LevelLakes, -1},
		{"LevelShore", impl.LevelShore, -1},
		{"LevelCorners", impl.LevelCorners, -1},
		{"LevelSides", impl.LevelSides, -1},
		{"LevelEuler", impl.LevelEuler, -1000},
	}
}

// numbers is for grids and levels with which LevelNumbers succeeds.
func numbers(t *testing.T, g [][]int, level int) []int {
	t.Helper()
	x, ok := impl.LevelNumbers(g, level)
	if !ok {
		t.Fatalf("LevelNumbers(%v, %d) failed", g, level)
	}
	return x
}
