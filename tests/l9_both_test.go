package tests

import (
	"slices"
	"testing"

	"loop.example/reliefmaps/impl"
)

// Promises 104 and 105: pairs of lists written out.
func TestFixesBothByHand(t *testing.T) {
	for _, p := range []struct {
		name    string
		a, b    []impl.Fix
		clashes bool
		want    []impl.Fix
	}{
		{"none", nil, nil, false, nil},
		{"one and none", []impl.Fix{fix(1, 2, 15, 9)}, nil, false, []impl.Fix{fix(1, 2, 15, 9)}},
		{"equal ones", []impl.Fix{fix(1, 2, 15, 9)}, []impl.Fix{fix(1, 2, 15, 9)}, false, []impl.Fix{fix(1, 2, 15, 9)}},
		{"one cell", []impl.Fix{fix(1, 2, 15, 9)}, []impl.Fix{fix(1, 2, 15, 8)}, true, nil},
		{"one cell, 0 and 99", []impl.Fix{fix(0, 0, 10, 0)}, []impl.Fix{fix(0, 0, 10, 99)}, true, nil},
		{"two cells of a row", []impl.Fix{fix(1, 1, 14, 9)}, []impl.Fix{fix(1, 2, 15, 9)}, false, []impl.Fix{fix(1, 1, 14, 9), fix(1, 2, 15, 9)}},
		{"two cells of a column", []impl.Fix{fix(0, 1, 11, 9)}, []impl.Fix{fix(1, 1, 14, 9)}, false, []impl.Fix{fix(0, 1, 11, 9), fix(1, 1, 14, 9)}},
		{"by row, then column", []impl.Fix{fix(0, 2, 12, 9)}, []impl.Fix{fix(1, 0, 13, 9)}, false, []impl.Fix{fix(0, 2, 12, 9), fix(1, 0, 13, 9)}},
		{
			"in turn", []impl.Fix{fix(0, 0, 10, 1), fix(0, 2, 12, 1), fix(1, 1, 14, 1)}, []impl.Fix{fix(0, 1, 11, 1), fix(1, 0, 13, 1), fix(1, 2, 15, 1)}, false,
			[]impl.Fix{fix(0, 0, 10, 1), fix(0, 1, 11, 1), fix(0, 2, 12, 1), fix(1, 0, 13, 1), fix(1, 1, 14, 1), fix(1, 2, 15, 1)},
		},
		{
			"one list behind the other", []impl.Fix{fix(0, 0, 10, 1), fix(0, 2, 12, 1)}, []impl.Fix{fix(1, 0, 13, 1), fix(1, 2, 15, 1)}, false,
			[]impl.Fix{fix(0, 0, 10, 1), fix(0, 2, 12, 1), fix(1, 0, 13, 1), fix(1, 2, 15, 1)},
		},
		{
			"an equal one between", []impl.Fix{fix(0, 0, 10, 1), fix(0, 2, 12, 1)}, []impl.Fix{fix(0, 2, 12, 1), fix(1, 2, 15, 1)}, false,
			[]impl.Fix{fix(0, 0, 10, 1), fix(0, 2, 12, 1), fix(1, 2, 15, 1)},
		},
		{"clash at the last ones", []impl.Fix{fix(0, 0, 10, 1), fix(0, 2, 12, 1)}, []impl.Fix{fix(0, 1, 11, 1), fix(0, 2, 12, 2)}, true, nil},
		{"clash at the first ones", []impl.Fix{fix(0, 0, 10, 1), fix(0, 2, 12, 1)}, []impl.Fix{fix(0, 0, 10, 2), fix(0, 2, 12, 1)}, true, nil},
		{"clash of the first and the last", []impl.Fix{fix(0, 2, 12, 1), fix(1, 2, 15, 1)}, []impl.Fix{fix(0, 0, 10, 1), fix(0, 2, 12, 2)}, true, nil},
		{"equal, but for the last one", []impl.Fix{fix(0, 0, 10, 1), fix(1, 2, 15, 1)}, []impl.Fix{fix(0, 0, 10, 1), fix(1, 2, 15, 2)}, true, nil},
	} {
		t.Run(p.name, func(t *testing.T) {
			checkPair(t, sixCells(), p.a, p.b, p.clashes, p.want)
			checkPair(t, sixCells(), p.b, p.a, p.clashes, p.want)
		})
	}
}

func checkPair(t *testing.T, g [][]int, a, b []impl.Fix, clashes bool, want []impl.Fix) {
	t.Helper()
	if got := impl.FixesClash(g, a, b); got != clashes {
		t.Fatalf("FixesClash of %v, %v and %v is %v", g, a, b, got)
	}
	both, ok := impl.FixesBoth(g, a, b)
	if clashes {
		wantNoFixes(t, "FixesBoth", both, ok)
	} else if !ok || !slices.Equal(both, want) {
		t.Fatalf("FixesBoth of %v, %v and %v returned %v, %v; want %v", g, a, b, both, ok, want)
	}
}

// eachPair has all pairs of short lists of a grid.
func eachPair(lists [][]impl.Fix, check func(a, b []impl.Fix)) {
	for _, a := range lists {
		for _, b := range lists {
			check(a, b)
		}
	}
}

// Promises 104 and 105: pairs of short lists of grids of each size.
func TestFixesPairs(t *testing.T) {
	for _, g := range editionGrids() {
		eachPair(shortLists(g), func(a, b []impl.Fix) {
			clashes := clashOf(a, b)
			var want []impl.Fix
			if !clashes {
				want = bothOf(a, b)
			}
			checkPair(t, g, a, b, clashes, want)
		})
	}
}

// Promises 104 and 105: all pairs of lists with which each of four cells stays or becomes one of two other heights.
func TestAllPairsOfFixes(t *testing.T) {
	for _, g := range [][][]int{{{0, 99}, {5, 0}}, {{0, 1, 2, 0}}, {{3}, {0}, {0}, {1}}} {
		var lists [][]impl.Fix
		for n := range 3 * 3 * 3 * 3 {
			p, rest := penOn(g), n
			for i, h := range heightsOf(g) {
				if rest%3 > 0 {
					p.write(i, (h+rest%3)%100)
				}
				rest /= 3
			}
			lists = append(lists, p.fixes)
		}
		eachPair(lists, func(a, b []impl.Fix) {
			checkPair(t, g, a, b, clashOf(a, b), bothOf(a, b))
		})
	}
}

// Promise 104.
func TestFixesClash(t *testing.T) {
	for _, g := range editionGrids() {
		eachPair(shortLists(g), func(a, b []impl.Fix) {
			if !impl.FixesClash(g, a, b) {
				return
			}
			_, ok := impl.FixesBoth(g, a, b)
			if !impl.FixesClash(g, b, a) || ok || sameGrid(edition(t, g, a), edition(t, g, b)) {
				t.Fatalf("FixesClash of %v, %v and %v is true", g, a, b)
			}
		})
	}
}

// Promise 105.
func TestFixesBoth(t *testing.T) {
	for _, g := range editionGrids() {
		eachPair(shortLists(g), func(a, b []impl.Fix) {
			both, ok := impl.FixesBoth(g, a, b)
			if !ok {
				return
			}
			exchanged, fine := impl.FixesBoth(g, b, a)
			if !fine || !slices.Equal(both, exchanged) || !impl.FixesAre(g, both) {
				t.Fatalf("FixesBoth of %v, %v and %v returned %v, and exchanged %v", g, a, b, both, exchanged)
			}
			for _, s := range both {
				if !slices.Contains(a, s) && !slices.Contains(b, s) {
					t.Fatalf("FixesBoth of %v, %v and %v returned %v", g, a, b, both)
				}
			}
			if far := impl.EditionFar(edition(t, g, a), edition(t, g, both)); far != len(both)-len(a) {
				t.Fatalf("FixesBoth of %v, %v and %v returned %v, with %d other heights", g, a, b, both, far)
			}
		})
	}
}

// Promise 105: all 49 cells in two lists, of even and odd cells, of north and south, and with a row in both.
func TestFixesBothOfAllCells(t *testing.T) {
	g := mixed(7, 7)
	all := madeOf(g, fill(7, 7, func(i int) int { return otherFor(g[i/7][i%7]) }))
	for _, isFirst := range []func(i int) bool{
		func(i int) bool { return i%2 == 0 },
		func(i int) bool { return i < 24 },
		func(i int) bool { return i%7 < 3 },
		func(i int) bool { return i == 48 },
		func(i int) bool { return false },
	} {
		var a, b []impl.Fix
		for i, s := range all {
			if isFirst(i) || i/7 == 3 {
				a = append(a, s)
			}
			if !isFirst(i) {
				b = append(b, s)
			}
		}
		checkPair(t, g, a, b, false, all)
		checkPair(t, g, all, b, false, all)
		checkPair(t, g, all, all, false, all)
	}
}

// Promises 104 and 105: both lists are of the grid, not one of the edition of the other.
func TestFixesBothOfOneGrid(t *testing.T) {
	g := sixCells()
	first, next := []impl.Fix{fix(0, 0, 10, 9)}, []impl.Fix{fix(0, 0, 9, 8)}
	wantNotBoth(t, "corrections of the edition", g, first, next)
	wantNotBoth(t, "corrections of the edition, exchanged", g, next, first)
	wantNotBoth(t, "corrections of the edition twice", g, next, next)
	wantNotBoth(t, "corrections back", g, first, fixesBack(t, g, first))
}
