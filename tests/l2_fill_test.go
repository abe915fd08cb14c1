package tests

import (
	"slices"
	"testing"

	"loop.example/reliefmaps/impl"
)

// fillPool returns the sum over all cells of the heights of one grid less those of another one.
func fillPool(full, g [][]int) int {
	sum := 0
	for i, h := range heightsOf(full) {
		sum += h - heightsOf(g)[i]
	}
	return sum
}

// Promises 22 and 23: filled grids written out.
func TestWaterFillByHand(t *testing.T) {
	for _, x := range []struct {
		from, want string
	}{
		{"00", "00"},
		{"99", "99"},
		{"09 00 09", "09 00 09"},
		{"09/00/09", "09/00/09"},
		{"09 09 09/09 00 09", "09 09 09/09 00 09"},
		{"09 09/09 00/09 09", "09 09/09 00/09 09"},
		{"99 99 99/99 00 99/99 99 99", "99 99 99/99 99 99/99 99 99"},
		{"00 00 00/00 99 00/00 00 00", "00 00 00/00 99 00/00 00 00"},
		{"05 05 05/05 01 04/05 05 05", "05 05 05/05 04 04/05 05 05"},
		{"04 05 05/05 01 05/05 05 05", "04 05 05/05 05 05/05 05 05"},
		{"09 03 09/09 01 09/09 09 09", "09 03 09/09 03 09/09 09 09"},
		{"09 09 09/09 01 09/09 02 09", "09 09 09/09 02 09/09 02 09"},
		{"09 09 09/00 01 09/09 09 09", "09 09 09/00 01 09/09 09 09"},
		{"09 09 09 09/09 01 02 03/09 09 09 09", "09 09 09 09/09 03 03 03/09 09 09 09"},
		{"09 09 09 09/09 01 06 03/09 09 09 09", "09 09 09 09/09 06 06 03/09 09 09 09"},
		{"09 09 09 09/09 06 01 03/09 09 09 09", "09 09 09 09/09 06 03 03/09 09 09 09"},
		{"09 09 09 09/09 01 09 09/09 09 02 09/09 09 09 03", "09 09 09 09/09 09 09 09/09 09 09 09/09 09 09 03"},
	} {
		g, ok := impl.GridFrom(x.from)
		want, fine := impl.GridFrom(x.want)
		if !ok || !fine {
			t.Fatalf("%q or %q is no text", x.from, x.want)
		}
		got, ok := impl.WaterFill(g)
		wantGrid(t, "WaterFill of "+x.from, got, ok, want)
		if pool := impl.WaterPool(g); pool != fillPool(want, g) {
			t.Errorf("WaterPool of %s is %d", x.from, pool)
		}
		if impl.WaterDrained(g) != (x.from == x.want) {
			t.Errorf("WaterDrained of %s is %v", x.from, impl.WaterDrained(g))
		}
	}
}

// Promises 22 and 23: a pool inside a pool rises with the outer one, or only up to its own rim.
func TestWaterFillOfPoolsInPools(t *testing.T) {
	grids := poolGrids()
	want := fill(7, 7, func(int) int { return 9 })
	if x := filled(t, grids[0]); !sameGrid(x, want) {
		t.Errorf("WaterFill(%v) = %v, want %v", grids[0], x, want)
	}
	if pool := impl.WaterPool(grids[0]); pool != 16*4+8*2+9 {
		t.Errorf("WaterPool(%v) = %d", grids[0], pool)
	}
	deep := cloneGrid(grids[0])
	deep[0][3], deep[1][3] = 2, 2
	want = cloneGrid(deep)
	for _, i := range []int{8, 9, 11, 12, 15, 19, 22, 26, 29, 33, 36, 37, 38, 39, 40} {
		want[i/7][i%7] = 5
	}
	want[3][3] = 7
	if x := filled(t, deep); !sameGrid(x, want) {
		t.Errorf("WaterFill(%v) = %v, want %v", deep, x, want)
	}
	want = cloneGrid(grids[1])
	for i := range 25 {
		want[1+i/5][1+i%5] = 8
	}
	if x := filled(t, grids[1]); !sameGrid(x, want) {
		t.Errorf("WaterFill(%v) = %v, want %v", grids[1], x, want)
	}
	if pool := impl.WaterPool(grids[1]); pool != 16*1+8*3+5 {
		t.Errorf("WaterPool(%v) = %d", grids[1], pool)
	}
}

// Promise 20: cells written out.
func TestWaterLeavesByHand(t *testing.T) {
	for _, x := range []struct {
		g    [][]int
		want string // by index: y if water leaves, n if not
	}{
		{[][]int{{0}}, "y"},
		{[][]int{{9, 0, 9}}, "yyy"},
		{[][]int{{9}, {0}, {9}}, "yyy"},
		{[][]int{{9, 9}, {0, 9}, {9, 9}}, "yyyyyy"},
		{[][]int{{5, 5, 5}, {5, 1, 4}, {5, 5, 5}}, "yyyynyyyy"},
		{[][]int{{5, 5, 5}, {5, 4, 4}, {5, 5, 5}}, "yyyyyyyyy"},
		{[][]int{{5, 5, 5}, {5, 5, 5}, {5, 5, 5}}, "yyyyyyyyy"},
		{[][]int{{0, 5, 0}, {5, 4, 5}, {0, 5, 0}}, "yyyynyyyy"},
		{[][]int{{99, 99, 99}, {99, 98, 99}, {99, 99, 99}}, "yyyynyyyy"},
		{[][]int{{9, 9, 9, 9}, {9, 1, 1, 1}, {9, 9, 9, 9}}, "yyyyyyyyyyyy"},
		{[][]int{{9, 9, 9, 9}, {9, 1, 1, 2}, {9, 9, 9, 9}}, "yyyyynnyyyyy"},
		{[][]int{{9, 9, 9, 9}, {9, 1, 2, 1}, {9, 9, 9, 9}}, "yyyyynyyyyyy"},
		{[][]int{{9, 9, 9, 9}, {9, 2, 1, 1}, {9, 9, 9, 9}}, "yyyyyyyyyyyy"},
	} {
		for i, want := range x.want {
			if got := impl.WaterLeaves(x.g, i/len(x.g[0]), i%len(x.g[0])); got != (want == 'y') {
				t.Errorf("WaterLeaves(%v) of the cell %d is %v", x.g, i, got)
			}
		}
		if got := impl.WaterDrained(x.g); got != !slices.Contains([]byte(x.want), 'n') {
			t.Errorf("WaterDrained(%v) is %v", x.g, got)
		}
	}
	for name, bad := range badGrids() {
		if impl.WaterLeaves(bad, 0, 0) {
			t.Errorf("water leaves %s", name)
		}
	}
}

// Promise 20.
func TestWaterLeaves(t *testing.T) {
	for _, g := range waterGrids() {
		full := filled(t, g)
		turned := turn(t, g)
		for i, h := range heightsOf(g) {
			r, c := i/len(g[0]), i%len(g[0])
			got := impl.WaterLeaves(g, r, c)
			if got != leavesOf(g, i) {
				t.Fatalf("WaterLeaves(%v, %d, %d) is %v", g, r, c, got)
			}
			if got && full[r][c] != h {
				t.Fatalf("water leaves the cell %d of %v, but WaterFill changes it", i, g)
			}
			if impl.WaterLeaves(turned, c, len(g)-1-r) != got {
				t.Fatalf("water leaves the cell %d of %v, or of this turned, but not of both", i, g)
			}
		}
	}
}

// Promise 21.
func TestWaterDrained(t *testing.T) {
	for _, g := range waterGrids() {
		want := true
		for i := range heightsOf(g) {
			want = want && leavesOf(g, i)
		}
		got := impl.WaterDrained(g)
		if got != want {
			t.Fatalf("WaterDrained(%v) is %v", g, got)
		}
		if got && (impl.WaterPool(g) != 0 || !sameGrid(filled(t, g), g)) {
			t.Fatalf("%v is drained, but not filled", g)
		}
		if higher, fits := raise(g); fits && impl.WaterDrained(higher) != got {
			t.Fatalf("WaterDrained(%v) is %v, but not with all heights 1 greater", g, got)
		}
		if impl.WaterDrained(turn(t, g)) != got {
			t.Fatalf("WaterDrained(%v) is %v, but not turned", g, got)
		}
	}
	for name, bad := range badGrids() {
		if impl.WaterDrained(bad) {
			t.Errorf("%s is drained", name)
		}
	}
}

// Promise 22: the least heights of all drained grids.
func TestWaterFillIsLeast(t *testing.T) {
	for _, g := range waterGrids() {
		got, ok := impl.WaterFill(g)
		wantGrid(t, "WaterFill", got, ok, fillOf(g))
	}
	for name, bad := range badGrids() {
		x, ok := impl.WaterFill(bad)
		wantNone(t, "WaterFill of "+name, x, ok)
	}
}

// Promise 22.
func TestWaterFill(t *testing.T) {
	for _, g := range waterGrids() {
		full := filled(t, g)
		if !impl.GridValid(full) || !impl.WaterDrained(full) {
			t.Fatalf("WaterFill(%v) = %v is not drained", g, full)
		}
		most := slices.Max(heightsOf(g))
		for i, h := range heightsOf(g) {
			r, c := i/len(g[0]), i%len(g[0])
			now := full[r][c]
			if now < h || now > most || now != h && onBorder(g, i) {
				t.Fatalf("WaterFill(%v) = %v has %d at the cell %d", g, full, now, i)
			}
			if now == h {
				continue
			}
			less := cloneGrid(full)
			less[r][c]--
			if impl.WaterLeaves(less, r, c) {
				t.Fatalf("WaterFill(%v) = %v could be less at the cell %d", g, full, i)
			}
		}
	}
}

// Promise 23.
func TestWaterPool(t *testing.T) {
	for _, g := range waterGrids() {
		full := filled(t, g)
		pool := impl.WaterPool(g)
		if pool != fillPool(full, g) {
			t.Fatalf("WaterPool(%v) = %d, want %d", g, pool, fillPool(full, g))
		}
		if impl.WaterPool(turn(t, g)) != pool || impl.WaterPool(mirror(t, g)) != pool {
			t.Fatalf("WaterPool(%v) = %d, and another number turned or mirrored", g, pool)
		}
		if higher, fits := raise(g); fits && impl.WaterPool(higher) != pool {
			t.Fatalf("WaterPool(%v) = %d, and another number with all heights 1 greater", g, pool)
		}
		if rest := impl.WaterPool(full); rest != 0 {
			t.Fatalf("WaterPool(%v) = %d, but the grid is filled", full, rest)
		}
	}
	for name, bad := range badGrids() {
		if got := impl.WaterPool(bad); got != -1 {
			t.Errorf("WaterPool of %s is %d", name, got)
		}
	}
	// The deepest pool that there can be.
	deepest := fill(7, 7, func(i int) int {
		if i/7 == 0 || i/7 == 6 || i%7 == 0 || i%7 == 6 {
			return 99
		}
		return 0
	})
	if got := impl.WaterPool(deepest); got != 25*99 {
		t.Errorf("WaterPool(%v) = %d", deepest, got)
	}
}
