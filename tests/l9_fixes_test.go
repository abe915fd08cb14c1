package tests

import (
	"slices"
	"testing"

	"loop.example/reliefmaps/impl"
)

// Promises 98, 99 and 108: editions written out.
func TestFixesByHand(t *testing.T) {
	g := sixCells()
	for _, p := range []struct {
		name  string
		g     [][]int
		fixes []impl.Fix
		want  string
		rise  int
	}{
		{"nil", g, nil, "10 11 12/13 14 15", 0},
		{"no correction", g, []impl.Fix{}, "10 11 12/13 14 15", 0},
		{"the first cell", g, []impl.Fix{fix(0, 0, 10, 99)}, "99 11 12/13 14 15", 89},
		{"the last row", g, []impl.Fix{fix(1, 0, 13, 0)}, "10 11 12/00 14 15", -13},
		{"the last column", g, []impl.Fix{fix(0, 2, 12, 13)}, "10 11 13/13 14 15", 1},
		{"the last cell", g, []impl.Fix{fix(1, 2, 15, 14)}, "10 11 12/13 14 14", -1},
		{"two cells", g, []impl.Fix{fix(1, 1, 14, 4), fix(0, 1, 11, 1)}, "10 01 12/13 04 15", -20},
		{"a cell twice", g, []impl.Fix{fix(1, 1, 14, 4), fix(1, 1, 4, 5)}, "10 11 12/13 05 15", -9},
		{"a cell twice, with one between", g, []impl.Fix{fix(1, 1, 14, 4), fix(0, 0, 10, 14), fix(1, 1, 4, 5)}, "14 11 12/13 05 15", -5},
		{"two cells twice", g, []impl.Fix{fix(1, 1, 14, 4), fix(0, 0, 10, 4), fix(1, 1, 4, 10), fix(0, 0, 4, 14)}, "14 11 12/13 10 15", 0},
		{"a cell there and back", g, []impl.Fix{fix(1, 2, 15, 99), fix(1, 2, 99, 15)}, "10 11 12/13 14 15", 0},
		{"there and back and there", g, []impl.Fix{fix(1, 2, 15, 99), fix(1, 2, 99, 15), fix(1, 2, 15, 99)}, "10 11 12/13 14 99", 84},
		{"there and back, one inside the other", g, []impl.Fix{fix(1, 2, 15, 0), fix(0, 0, 10, 0), fix(0, 0, 0, 10), fix(1, 2, 0, 15)}, "10 11 12/13 14 15", 0},
		{"sixty there and back", g, alternating(60), "10 11 12/13 14 15", 0},
		{"59 there and back", g, alternating(59), "09 11 12/13 14 15", -1},
		{"sixty all over it", g, walk6(60), "20 21 22/23 24 25", 60},
		{"one cell", [][]int{{0}}, []impl.Fix{fix(0, 0, 0, 99), fix(0, 0, 99, 0), fix(0, 0, 0, 1)}, "01", 1},
		{"one row", [][]int{{5, 6, 7}}, []impl.Fix{fix(0, 2, 7, 5), fix(0, 1, 6, 5)}, "05 05 05", -3},
		{"one column", [][]int{{5}, {6}, {7}}, []impl.Fix{fix(2, 0, 7, 5), fix(1, 0, 6, 5)}, "05/05/05", -3},
	} {
		t.Run(p.name, func(t *testing.T) {
			if !impl.FixesValid(p.g, p.fixes) {
				t.Error("FixesValid is false")
			}
			if got, ok := impl.FixesDo(p.g, p.fixes); !ok || spell(got) != p.want {
				t.Errorf("FixesDo returned %v, %v; want %s", got, ok, p.want)
			}
			if got := rise(t, p.g, p.fixes); got != p.rise {
				t.Errorf("FixesRise = %d; want %d", got, p.rise)
			}
		})
	}
}

// Promise 98: all lists of up to three corrections with few numbers, of a row, a column and a cell.
func TestAllShortListsOfFixes(t *testing.T) {
	var all []impl.Fix
	for n := range 2 * 3 * 3 * 3 {
		all = append(all, fix(n%2, n/2%3-1, n/6%3, n/18%3))
	}
	for _, g := range [][][]int{{{0, 1}}, {{1}, {0}}, {{2}}} {
		checkFixes(t, g, nil)
		for _, a := range all {
			checkFixes(t, g, []impl.Fix{a})
			for _, b := range all {
				checkFixes(t, g, []impl.Fix{a, b})
				for _, c := range all {
					checkFixes(t, g, []impl.Fix{a, b, c})
				}
			}
		}
	}
}

func checkFixes(t *testing.T, g [][]int, fixes []impl.Fix) {
	t.Helper()
	want, isValid := doneOf(g, fixes)
	got, ok := impl.FixesDo(g, fixes)
	if ok != isValid || ok && !sameGrid(got, want) || !ok && len(got) != 0 {
		t.Fatalf("FixesDo of %v and %v returned %v, %v; want %v, %v", g, fixes, got, ok, want, isValid)
	}
	if impl.FixesValid(g, fixes) != isValid {
		t.Fatalf("FixesValid of %v and %v is %v", g, fixes, !isValid)
	}
	if impl.FixesAre(g, fixes) != (isValid && isShortOf(fixes)) {
		t.Fatalf("FixesAre of %v and %v is %v", g, fixes, impl.FixesAre(g, fixes))
	}
	if isValid {
		checkAll(t, corrected{g, fixes})
	}
}

// checkAll compares the lists and the number that the chapter makes of corrections with the document's.
func checkAll(t *testing.T, e corrected) {
	t.Helper()
	g, fixes := e.g, e.fixes
	after, _ := doneOf(g, fixes)
	if got := fixesBack(t, g, fixes); !slices.Equal(got, backOf(fixes)) {
		t.Fatalf("FixesBack of %v and %v returned %v", g, fixes, got)
	}
	if got := fixesShort(t, g, fixes); !slices.Equal(got, madeOf(g, after)) {
		t.Fatalf("FixesShort of %v and %v returned %v", g, fixes, got)
	}
	if got := impl.FixesCells(g, fixes); !slices.Equal(got, fixedCellsOf(g, fixes)) {
		t.Fatalf("FixesCells of %v and %v returned %v", g, fixes, got)
	}
	if got := rise(t, g, fixes); got != riseOf(fixes) {
		t.Fatalf("FixesRise of %v and %v = %d", g, fixes, got)
	}
	for r := range g {
		for c := range g[r] {
			if got := fixesAt(t, g, fixes, r, c); !slices.Equal(got, fixedAtOf(g, fixes, r, c)) {
				t.Fatalf("FixesAt of %v and %v at %d, %d returned %v", g, fixes, r, c, got)
			}
		}
	}
}

// Promises 98 to 101 and 106 to 108: all samples.
func TestSampleFixes(t *testing.T) {
	for _, e := range sampleEditions() {
		checkFixes(t, e.g, e.fixes)
	}
}

// Promise 98: the first corrections alone, and the others of the edition of these.
func TestFixesValid(t *testing.T) {
	for _, e := range sampleEditions() {
		end := edition(t, e.g, e.fixes)
		for _, k := range someSplits(e.fixes) {
			if !impl.FixesValid(e.g, e.fixes[:k]) {
				t.Fatalf("FixesValid of %v and %v is false", e.g, e.fixes[:k])
			}
			between := edition(t, e.g, e.fixes[:k])
			if !impl.FixesValid(between, e.fixes[k:]) {
				t.Fatalf("FixesValid of %v and %v is false", between, e.fixes[k:])
			}
			if got := edition(t, between, e.fixes[k:]); !sameGrid(got, end) {
				t.Fatalf("the edition of %v and %v is %v, but in two parts %v", e.g, e.fixes, end, got)
			}
		}
	}
}

// Promise 98: each field up to its limits, alone and behind other corrections.
func TestFixesValidLimits(t *testing.T) {
	for _, size := range [][2]int{{1, 1}, {1, 7}, {7, 1}, {2, 3}, {3, 2}, {7, 7}} {
		rows, cols := size[0], size[1]
		g := fill(rows, cols, func(int) int { return 50 })
		others := []impl.Fix{fix(0, 0, 50, 49), fix(rows-1, cols-1, 50, 52), fix(0, 0, 49, 50)}
		if rows*cols == 1 {
			others = []impl.Fix{fix(0, 0, 50, 99), fix(0, 0, 99, 50)}
		}
		for _, n := range oddNumbers() {
			for _, p := range []struct {
				s    impl.Fix
				want bool
			}{
				{fix(n, 0, 50, 51), 0 <= n && n < rows},
				{fix(0, n, 50, 51), 0 <= n && n < cols},
				{fix(0, 0, n, 51), n == 50},
				{fix(0, 0, n, n), false},
				{fix(0, 0, 50, n), 0 <= n && n <= 99 && n != 50},
			} {
				if got := impl.FixesValid(g, []impl.Fix{p.s}); got != p.want {
					t.Errorf("FixesValid of %d rows and %d columns and %v = %v", rows, cols, p.s, got)
				}
				behind := append(slices.Clone(others), p.s)
				want := p.want && !(rows*cols > 1 && p.s.Row == rows-1 && p.s.Col == cols-1)
				if got := impl.FixesValid(g, behind); got != want {
					t.Errorf("FixesValid of %d rows and %d columns and %v = %v", rows, cols, behind, got)
				}
			}
		}
	}
}

// Promise 98: each height by each other one, and none by itself.
func TestFixesValidHeights(t *testing.T) {
	for old := range 100 {
		for height := range 100 {
			fixes := []impl.Fix{fix(0, 0, old, height)}
			if got := impl.FixesValid([][]int{{old}}, fixes); got != (old != height) {
				t.Fatalf("FixesValid of %v = %v", fixes, got)
			}
			if got := impl.FixesValid([][]int{{height}}, fixes); got {
				t.Fatalf("FixesValid of the height %d and %v = %v", height, fixes, got)
			}
		}
	}
}

// Promise 98: FixesMax corrections and one more.
func TestFixesValidMany(t *testing.T) {
	for many := 55; many <= 65; many++ {
		for _, fixes := range [][]impl.Fix{alternating(many), walk6(many)} {
			if got := impl.FixesValid(sixCells(), fixes); got != (many <= 60) {
				t.Errorf("FixesValid of %d corrections = %v", many, got)
			}
		}
	}
	// All cells of the greatest grid, and some of them twice.
	g := fill(7, 7, func(i int) int { return 40 + i })
	for i := range slices.Backward(heightsOf(g)) {
		all := twice(g, nextFor, leastFor)
		if all = all[:49+i/4]; !impl.FixesValid(g, all) != (len(all) > 60) {
			t.Errorf("FixesValid of %d corrections is %v", len(all), len(all) > 60)
		}
	}
}

// wantRefused fails unless all functions of a grid and corrections refuse them.
func wantRefused(t *testing.T, name string, g [][]int, fixes []impl.Fix) {
	t.Helper()
	if impl.FixesValid(g, fixes) || impl.FixesAre(g, fixes) {
		t.Errorf("%s: corrections", name)
	}
	x, ok := impl.FixesDo(g, fixes)
	wantNone(t, "FixesDo of "+name, x, ok)
	list, ok := impl.FixesBack(g, fixes)
	wantNoFixes(t, "FixesBack of "+name, list, ok)
	list, ok = impl.FixesShort(g, fixes)
	wantNoFixes(t, "FixesShort of "+name, list, ok)
	cells := impl.FixesCells(g, fixes)
	wantNoList(t, "FixesCells of "+name, cells, false)
	for _, r := range []int{-1, 0, 1} {
		heights, ok := impl.FixesAt(g, fixes, r, 0)
		wantNoList(t, "FixesAt of "+name, heights, ok)
	}
	if sum, ok := impl.FixesRise(g, fixes); ok || sum != 0 {
		t.Errorf("FixesRise of %s returned %d, %v", name, sum, ok)
	}
	for _, others := range [][]impl.Fix{nil, {fix(0, 0, 10, 8)}, {fix(1, 1, 14, 8)}, fixes} {
		wantNotBoth(t, name, g, fixes, others)
		wantNotBoth(t, name+" as the second list", g, others, fixes)
	}
}

// wantNotBoth fails unless two lists do not clash and cannot be put together.
func wantNotBoth(t *testing.T, name string, g [][]int, a, b []impl.Fix) {
	t.Helper()
	if impl.FixesClash(g, a, b) {
		t.Errorf("FixesClash of %s is true", name)
	}
	both, ok := impl.FixesBoth(g, a, b)
	wantNoFixes(t, "FixesBoth of "+name, both, ok)
}

// Promises 98 to 108: what are no corrections is refused by all functions.
func TestNoFixes(t *testing.T) {
	for name, fixes := range badFixes() {
		wantRefused(t, name, sixCells(), fixes)
	}
}

// Promises 98 to 108: lists that are no grid, with and without corrections.
func TestNoGridToFix(t *testing.T) {
	for name, g := range badGrids() {
		for _, fixes := range [][]impl.Fix{nil, {fix(0, 0, 1, 2)}, {fix(0, 0, -1, 2)}, {fix(0, 0, 100, 2)}, {fix(0, 0, 5, 2)}, {fix(0, 0, 0, 1)}, alternating(61)} {
			wantRefused(t, name, g, fixes)
		}
	}
}

// Promise 98: corrections of one grid are none of another one.
func TestFixesOfAnotherGrid(t *testing.T) {
	fixes := []impl.Fix{fix(1, 2, 15, 9)}
	for name, g := range map[string][][]int{
		"turned":             turn(t, sixCells()),
		"mirrored":           mirror(t, sixCells()),
		"without its column": {{10, 11}, {13, 14}},
		"without its row":    {{10, 11, 12}},
		"in one row":         {{10, 11, 12, 13, 14, 15}},
		"in one column":      {{10}, {11}, {12}, {13}, {14}, {15}},
		"corrected":          edition(t, sixCells(), fixes),
	} {
		wantRefused(t, name, g, fixes)
	}
}

// Promise 99.
func TestFixesDo(t *testing.T) {
	for _, e := range sampleEditions() {
		end := edition(t, e.g, e.fixes)
		few, cells := len(fixesShort(t, e.g, e.fixes)), len(impl.FixesCells(e.g, e.fixes))
		if far := impl.EditionFar(e.g, end); far != few || far > cells {
			t.Fatalf("%v and %v: EditionFar is %d, with %d short corrections of %d cells", e.g, e.fixes, far, few, cells)
		}
		if sum := heightSum(end) - heightSum(e.g); sum != rise(t, e.g, e.fixes) {
			t.Fatalf("%v and %v: FixesRise is %d, but the heights differ by %d", e.g, e.fixes, rise(t, e.g, e.fixes), sum)
		}
	}
}

// Promise 100: lists written out.
func TestFixesBackByHand(t *testing.T) {
	g := sixCells()
	for _, p := range []struct{ fixes, want []impl.Fix }{
		{nil, nil},
		{[]impl.Fix{fix(1, 2, 15, 99)}, []impl.Fix{fix(1, 2, 99, 15)}},
		{[]impl.Fix{fix(0, 1, 11, 0), fix(1, 0, 13, 7)}, []impl.Fix{fix(1, 0, 7, 13), fix(0, 1, 0, 11)}},
		{[]impl.Fix{fix(0, 1, 11, 0), fix(0, 1, 0, 7)}, []impl.Fix{fix(0, 1, 7, 0), fix(0, 1, 0, 11)}},
		{[]impl.Fix{fix(0, 1, 11, 0), fix(0, 1, 0, 11)}, []impl.Fix{fix(0, 1, 11, 0), fix(0, 1, 0, 11)}},
		{
			[]impl.Fix{fix(0, 1, 11, 0), fix(0, 0, 10, 5), fix(0, 1, 0, 7)},
			[]impl.Fix{fix(0, 1, 7, 0), fix(0, 0, 5, 10), fix(0, 1, 0, 11)},
		},
		{alternating(60), alternating(60)},
	} {
		if got := fixesBack(t, g, p.fixes); !slices.Equal(got, p.want) {
			t.Errorf("FixesBack of %v returned %v; want %v", p.fixes, got, p.want)
		}
	}
}

// Promise 100.
func TestFixesBack(t *testing.T) {
	for _, e := range sampleEditions() {
		end, back := edition(t, e.g, e.fixes), fixesBack(t, e.g, e.fixes)
		if !impl.FixesValid(end, back) || !sameGrid(edition(t, end, back), e.g) {
			t.Fatalf("FixesBack of %v and %v returned %v, which do not lead back", e.g, e.fixes, back)
		}
		if again := fixesBack(t, end, back); !slices.Equal(again, e.fixes) {
			t.Fatalf("FixesBack of %v and %v twice returned %v", e.g, e.fixes, again)
		}
		if rise(t, end, back) != -rise(t, e.g, e.fixes) {
			t.Fatalf("FixesRise of %v and %v is %d, and back %d", e.g, e.fixes, rise(t, e.g, e.fixes), rise(t, end, back))
		}
	}
}
