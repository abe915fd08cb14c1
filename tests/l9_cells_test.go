package tests

import (
	"slices"
	"testing"

	"loop.example/reliefmaps/impl"
)

// Promise 106: cells written out.
func TestFixesCellsByHand(t *testing.T) {
	for _, p := range []struct {
		name  string
		g     [][]int
		fixes []impl.Fix
		want  []int
	}{
		{"none", sixCells(), nil, nil},
		{"the first cell", sixCells(), []impl.Fix{fix(0, 0, 10, 9)}, []int{0}},
		{"the last cell", sixCells(), []impl.Fix{fix(1, 2, 15, 9)}, []int{5}},
		{"from behind", sixCells(), []impl.Fix{fix(1, 2, 15, 9), fix(1, 0, 13, 9), fix(0, 1, 11, 9)}, []int{1, 3, 5}},
		{"a cell twice", sixCells(), []impl.Fix{fix(1, 1, 14, 9), fix(1, 1, 9, 8)}, []int{4}},
		{"a cell twice, with one between", sixCells(), []impl.Fix{fix(1, 1, 14, 9), fix(0, 2, 12, 9), fix(1, 1, 9, 8)}, []int{2, 4}},
		{"a cell there and back", sixCells(), []impl.Fix{fix(1, 1, 14, 9), fix(1, 1, 9, 14)}, []int{4}},
		{"sixty of one cell", sixCells(), alternating(60), []int{0}},
		{"sixty of all cells", sixCells(), walk6(60), []int{0, 1, 2, 3, 4, 5}},
		{"one row", [][]int{{5, 6, 7}}, []impl.Fix{fix(0, 2, 7, 5), fix(0, 1, 6, 5)}, []int{1, 2}},
		{"one column", [][]int{{5}, {6}, {7}}, []impl.Fix{fix(2, 0, 7, 5), fix(1, 0, 6, 5)}, []int{1, 2}},
		{"the last cell of the greatest grid", mixed(7, 7), []impl.Fix{fix(6, 6, mixed(7, 7)[6][6], 0)}, []int{48}},
	} {
		if got := impl.FixesCells(p.g, p.fixes); !slices.Equal(got, p.want) {
			t.Errorf("%s: FixesCells returned %v; want %v", p.name, got, p.want)
		}
	}
}

// Promise 106.
func TestFixesCells(t *testing.T) {
	for _, e := range sampleEditions() {
		cells, cols := impl.FixesCells(e.g, e.fixes), len(e.g[0])
		for n := 1; n < len(cells); n++ {
			if cells[n-1] >= cells[n] {
				t.Fatalf("FixesCells of %v and %v returned %v", e.g, e.fixes, cells)
			}
		}
		for i := range heightsOf(e.g) {
			isFixed := slices.ContainsFunc(e.fixes, func(s impl.Fix) bool { return s.Row*cols+s.Col == i })
			many := len(fixesAt(t, e.g, e.fixes, i/cols, i%cols))
			if is := slices.Contains(cells, i); is != isFixed || is != (many > 1) {
				t.Fatalf("FixesCells of %v and %v returned %v; %d has %d heights", e.g, e.fixes, cells, i, many)
			}
		}
	}
}

// Promise 107: heights written out.
func TestFixesAtByHand(t *testing.T) {
	fixes := []impl.Fix{fix(1, 1, 14, 9), fix(0, 1, 11, 9), fix(1, 1, 9, 14), fix(1, 2, 15, 0), fix(1, 1, 14, 99)}
	for i, want := range [][]int{{10}, {11, 9}, {12}, {13}, {14, 9, 14, 99}, {15, 0}} {
		if got := fixesAt(t, sixCells(), fixes, i/3, i%3); !slices.Equal(got, want) {
			t.Errorf("FixesAt at %d returned %v; want %v", i, got, want)
		}
		if got := fixesAt(t, sixCells(), nil, i/3, i%3); !slices.Equal(got, want[:1]) {
			t.Errorf("FixesAt of no corrections at %d returned %v; want %v", i, got, want[:1])
		}
	}
	if got := fixesAt(t, sixCells(), alternating(60), 0, 0); len(got) != 61 || got[0] != 10 || got[1] != 9 || got[60] != 10 {
		t.Errorf("FixesAt of sixty corrections returned %v", got)
	}
	if got := fixesAt(t, [][]int{{0}}, []impl.Fix{fix(0, 0, 0, 99), fix(0, 0, 99, 0)}, 0, 0); !slices.Equal(got, []int{0, 99, 0}) {
		t.Errorf("FixesAt of one cell returned %v", got)
	}
}

// Promise 107.
func TestFixesAt(t *testing.T) {
	for _, e := range sampleEditions() {
		end, back := edition(t, e.g, e.fixes), fixesBack(t, e.g, e.fixes)
		for r := range e.g {
			for c := range e.g[r] {
				heights := fixesAt(t, e.g, e.fixes, r, c)
				if heights[0] != e.g[r][c] || heights[len(heights)-1] != end[r][c] {
					t.Fatalf("FixesAt of %v and %v at %d, %d returned %v", e.g, e.fixes, r, c, heights)
				}
				if len(slices.Compact(slices.Clone(heights))) != len(heights) {
					t.Fatalf("FixesAt of %v and %v at %d, %d returned %v", e.g, e.fixes, r, c, heights)
				}
				opposite := fixesAt(t, end, back, r, c)
				slices.Reverse(opposite)
				if !slices.Equal(opposite, heights) {
					t.Fatalf("FixesAt of %v and %v at %d, %d returned %v, but from behind %v", e.g, e.fixes, r, c, heights, opposite)
				}
			}
		}
	}
}

// Promise 107: rows and columns that are not in the grid.
func TestFixesAtNoCell(t *testing.T) {
	for _, size := range [][2]int{{1, 1}, {1, 7}, {7, 1}, {2, 3}, {3, 2}, {7, 7}} {
		g := mixed(size[0], size[1])
		for _, fixes := range [][]impl.Fix{nil, walk(g, 60, 49, 3)} {
			for _, r := range oddNumbers() {
				for _, c := range oddNumbers() {
					if 0 <= r && r < size[0] && 0 <= c && c < size[1] {
						continue
					}
					heights, ok := impl.FixesAt(g, fixes, r, c)
					wantNoList(t, "FixesAt", heights, ok)
				}
			}
		}
	}
}

// Promise 108.
func TestFixesRise(t *testing.T) {
	for _, e := range sampleEditions() {
		all := rise(t, e.g, e.fixes)
		for _, k := range someSplits(e.fixes) {
			first, others := rise(t, e.g, e.fixes[:k]), rise(t, edition(t, e.g, e.fixes[:k]), e.fixes[k:])
			if all != first+others {
				t.Fatalf("FixesRise of %v and %v is %d, but in two parts %d and %d", e.g, e.fixes, all, first, others)
			}
		}
		if few := rise(t, e.g, fixesShort(t, e.g, e.fixes)); few != all {
			t.Fatalf("FixesRise of %v and %v is %d, but shortened %d", e.g, e.fixes, all, few)
		}
	}
}

// Promise 108: the greatest rise and the greatest fall of all cells, and of one.
func TestFixesRiseLimits(t *testing.T) {
	low, high := fill(7, 7, leastFor), fill(7, 7, mostFor)
	if got := rise(t, low, madeOf(low, high)); got != 49*99 {
		t.Errorf("FixesRise of all cells = %d", got)
	}
	if got := rise(t, high, madeOf(high, low)); got != -49*99 {
		t.Errorf("FixesRise of all cells = %d", got)
	}
	p := penOn([][]int{{0}})
	for n := range 60 {
		p.write(0, 99-99*(n%2))
		want := 99 - 99*(n%2)
		if got := rise(t, [][]int{{0}}, p.fixes); got != want {
			t.Errorf("FixesRise of %d corrections of one cell = %d; want %d", n+1, got, want)
		}
	}
}
