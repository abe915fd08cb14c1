package tests

import (
	"slices"
	"testing"

	"loop.example/reliefmaps/impl"
)

// Promise 29.
func TestLevelLakes(t *testing.T) {
	atEachLevel(func(g [][]int, level int) {
		lakes := impl.LevelLakes(g, level)
		if want := lakesOf(g, level); lakes != want {
			t.Fatalf("LevelLakes(%v, %d) = %d, want %d", g, level, lakes, want)
		}
		if impl.LevelLakes(turn(t, g), level) != lakes || impl.LevelLakes(mirror(t, g), level) != lakes {
			t.Fatalf("LevelLakes(%v, %d) = %d, and another number turned or mirrored", g, level, lakes)
		}
		few := len(g) <= 2 || len(g[0]) <= 2
		if lakes != 0 && (few || impl.LevelLand(g, level) == len(heightsOf(g))) {
			t.Fatalf("LevelLakes(%v, %d) = %d, but there can be none", g, level, lakes)
		}
	})
}

// Promises 29 and 33: all ways in which water can touch water at a corner, inside and at the border.
func TestLevelLakesOfAllSmallLand(t *testing.T) {
	for land := range 1 << 16 {
		g := fill(4, 4, func(i int) int { return 5 * (land >> i & 1) })
		lakes := impl.LevelLakes(g, 5)
		if want := lakesOf(g, 5); lakes != want {
			t.Fatalf("LevelLakes(%v, 5) = %d, want %d", g, lakes, want)
		}
		if euler := impl.LevelEuler(g, 5); euler != len(regionsOf(g, 5))-lakes {
			t.Fatalf("LevelEuler(%v, 5) = %d", g, euler)
		}
	}
}

// Promises 29 and 33: all water inside a border of land.
func TestLevelLakesInsideLand(t *testing.T) {
	for water := range 1 << 12 {
		g := fill(5, 6, func(i int) int {
			r, c := i/6-1, i%6-1
			if r < 0 || r > 2 || c < 0 || c > 3 {
				return 5
			}
			return 5 * (1 - water>>(4*r+c)&1)
		})
		lakes := impl.LevelLakes(g, 5)
		if want := lakesOf(g, 5); lakes != want || (want == 0) != (water == 0) {
			t.Fatalf("LevelLakes(%v, 5) = %d, want %d", g, lakes, want)
		}
		if euler := impl.LevelEuler(g, 5); euler != len(regionsOf(g, 5))-lakes {
			t.Fatalf("LevelEuler(%v, 5) = %d", g, euler)
		}
	}
}

// Promise 29: two water cells that touch, along each of the eight ways, are one lake, or none if one is a border cell.
func TestLevelLakesOfTwoCells(t *testing.T) {
	flat := fill(7, 7, func(int) int { return 5 })
	for a := range 49 {
		for _, b := range touching(flat, a) {
			g := cloneGrid(flat)
			g[a/7][a%7], g[b/7][b%7] = 4, 4
			want := 1
			if onBorder(g, a) || onBorder(g, b) {
				want = 0
			}
			if got := impl.LevelLakes(g, 5); got != want {
				t.Errorf("LevelLakes(%v, 5) = %d, want %d", g, got, want)
			}
		}
	}
}

// Promise 29: two water cells that do not touch are two lakes, but for those at the border.
func TestLevelLakesOfTwoCellsApart(t *testing.T) {
	flat := fill(7, 7, func(int) int { return 5 })
	for a := range 49 {
		for b := range a {
			if slices.Contains(touching(flat, a), b) {
				continue
			}
			g := cloneGrid(flat)
			g[a/7][a%7], g[b/7][b%7] = 4, 4
			want := 2
			for _, i := range []int{a, b} {
				if onBorder(g, i) {
					want--
				}
			}
			if got := impl.LevelLakes(g, 5); got != want {
				t.Errorf("LevelLakes(%v, 5) = %d, want %d", g, got, want)
			}
		}
	}
}
