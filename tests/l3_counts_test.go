package tests

import (
	"testing"

	"loop.example/reliefmaps/impl"
)

// Promise 30.
func TestLevelShore(t *testing.T) {
	atEachLevel(func(g [][]int, level int) {
		shore := impl.LevelShore(g, level)
		if want := shoreOf(g, level); shore != want {
			t.Fatalf("LevelShore(%v, %d) = %d, want %d", g, level, shore, want)
		}
		if shore != 4*impl.LevelLand(g, level)-2*impl.LevelSides(g, level) || shore%2 != 0 {
			t.Fatalf("LevelShore(%v, %d) = %d does not fit LevelLand and LevelSides", g, level, shore)
		}
		if impl.LevelShore(turn(t, g), level) != shore {
			t.Fatalf("LevelShore(%v, %d) = %d, and another number turned", g, level, shore)
		}
	})
}

// Promise 31.
func TestLevelCorners(t *testing.T) {
	atEachLevel(func(g [][]int, level int) {
		corners := impl.LevelCorners(g, level)
		if want := cornersOf(g, level); corners != want {
			t.Fatalf("LevelCorners(%v, %d) = %d, want %d", g, level, corners, want)
		}
		if impl.LevelCorners(turn(t, g), level) != corners {
			t.Fatalf("LevelCorners(%v, %d) = %d, and another number turned", g, level, corners)
		}
		if corners > impl.LevelSides(g, level) {
			t.Fatalf("LevelCorners(%v, %d) = %d is more than LevelSides", g, level, corners)
		}
		if level < 99 && impl.LevelCorners(g, level+1) > corners {
			t.Fatalf("LevelCorners(%v, %d) = %d is less than that of the next level", g, level, corners)
		}
	})
}

// Promise 32.
func TestLevelSides(t *testing.T) {
	atEachLevel(func(g [][]int, level int) {
		sides := impl.LevelSides(g, level)
		if want := landSidesOf(g, level); sides != want {
			t.Fatalf("LevelSides(%v, %d) = %d, want %d", g, level, sides, want)
		}
		if impl.LevelSides(mirror(t, g), level) != sides {
			t.Fatalf("LevelSides(%v, %d) = %d, and another number mirrored", g, level, sides)
		}
		if sides > 2*impl.LevelLand(g, level) {
			t.Fatalf("LevelSides(%v, %d) = %d is more than twice LevelLand", g, level, sides)
		}
		if level < 99 && impl.LevelSides(g, level+1) > sides {
			t.Fatalf("LevelSides(%v, %d) = %d is less than that of the next level", g, level, sides)
		}
	})
}

// Promise 33.
func TestLevelEuler(t *testing.T) {
	atEachLevel(func(g [][]int, level int) {
		euler := impl.LevelEuler(g, level)
		if euler != cornersOf(g, level)-landSidesOf(g, level)+countLand(g, level) {
			t.Fatalf("LevelEuler(%v, %d) = %d is not corners less sides plus land", g, level, euler)
		}
		if euler != impl.LevelRegions(g, level)-impl.LevelLakes(g, level) {
			t.Fatalf("LevelEuler(%v, %d) = %d is not regions less lakes", g, level, euler)
		}
	})
}
