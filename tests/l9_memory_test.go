package tests

import (
	"slices"
	"testing"

	"loop.example/reliefmaps/impl"
)

// fixResult has what a call returned; numbers are returned as lists.
type fixResult struct {
	grid    [][]int
	fixes   []impl.Fix
	numbers []int
}

func (x fixResult) clone() fixResult {
	return fixResult{cloneGrid(x.grid), slices.Clone(x.fixes), slices.Clone(x.numbers)}
}

func (x fixResult) is(other fixResult) bool {
	return sameGrid(x.grid, other.grid) && slices.Equal(x.fixes, other.fixes) && slices.Equal(x.numbers, other.numbers)
}

// spoil writes into a result up to its capacity, and reports whether no two of its rows share memory.
func (x fixResult) spoil() bool {
	for i := range x.fixes[:cap(x.fixes)] {
		x.fixes[:cap(x.fixes)][i] = impl.Fix{}
	}
	for i := range x.numbers[:cap(x.numbers)] {
		x.numbers[:cap(x.numbers)][i] = mark - 1
	}
	return scribble(x.grid)
}

type fixCall struct {
	name string
	run  func(g [][]int, a, b []impl.Fix) fixResult
}

// fixCalls has the calls of the chapter with a grid and one or two lists of corrections.
func fixCalls() []fixCall {
	return []fixCall{
		{"FixesValid", func(g [][]int, a, b []impl.Fix) fixResult {
			impl.FixesValid(g, a)
			return fixResult{}
		}},
		{"FixesDo", func(g [][]int, a, b []impl.Fix) fixResult {
			end, _ := impl.FixesDo(g, a)
			return fixResult{grid: end}
		}},
		{"FixesBack", func(g [][]int, a, b []impl.Fix) fixResult {
			back, _ := impl.FixesBack(g, a)
			return fixResult{fixes: back}
		}},
		{"FixesShort", func(g [][]int, a, b []impl.Fix) fixResult {
			few, _ := impl.FixesShort(g, a)
			return fixResult{fixes: few}
		}},
		{"FixesAre", func(g [][]int, a, b []impl.Fix) fixResult {
			impl.FixesAre(g, a)
			return fixResult{}
		}},
		{"FixesClash", func(g [][]int, a, b []impl.Fix) fixResult {
			impl.FixesClash(g, a, b)
			return fixResult{}
		}},
		{"FixesBoth", func(g [][]int, a, b []impl.Fix) fixResult {
			both, _ := impl.FixesBoth(g, a, b)
			return fixResult{fixes: both}
		}},
		{"FixesCells", func(g [][]int, a, b []impl.Fix) fixResult {
			return fixResult{numbers: impl.FixesCells(g, a)}
		}},
		{"FixesAt", func(g [][]int, a, b []impl.Fix) fixResult {
			heights, _ := impl.FixesAt(g, a, 0, 0)
			return fixResult{numbers: heights}
		}},
		{"FixesRise", func(g [][]int, a, b []impl.Fix) fixResult {
			sum, _ := impl.FixesRise(g, a)
			return fixResult{numbers: []int{sum}}
		}},
	}
}

var markedFix = fix(mark, mark, mark, mark)

// longerFixes returns a copy of a list with room behind it, filled with marks.
func longerFixes(fixes []impl.Fix) []impl.Fix {
	return slices.Concat(fixes, []impl.Fix{markedFix, markedFix, markedFix})[:len(fixes)]
}

// longerFixesStay reports whether longerFixes(fixes) is as it was made, up to these marks.
func longerFixesStay(x, fixes []impl.Fix) bool {
	return slices.Equal(x[:len(fixes)+3], slices.Concat(fixes, []impl.Fix{markedFix, markedFix, markedFix}))
}

// checkFixMemory fails if a call changes its arguments, or if its result shares memory with these, with itself or with later results.
func checkFixMemory(t *testing.T, call fixCall, g [][]int, a, b []impl.Fix) {
	t.Helper()
	x, y, z := roomy(g), longerFixes(a), longerFixes(b)
	stay := func() bool {
		return roomyStays(x, g) && longerFixesStay(y, a) && longerFixesStay(z, b)
	}
	first := call.run(x, y, z)
	kept := first.clone()
	if !stay() {
		t.Fatalf("%s changed its arguments %v, %v and %v", call.name, g, a, b)
	}
	second := call.run(x, y, z)
	if !first.spoil() {
		t.Fatalf("%s of %v, %v and %v returned rows that share memory", call.name, g, a, b)
	}
	if !stay() {
		t.Fatalf("%s of %v, %v and %v shares memory with its arguments", call.name, g, a, b)
	}
	if third := call.run(x, y, z); !second.is(kept) || !third.is(kept) {
		t.Fatalf("%s of %v, %v and %v is %v, then %v and %v", call.name, g, a, b, kept, second, third)
	}
}

// Promises 98 to 101 and 103 to 108.
func TestFixMemory(t *testing.T) {
	for _, call := range fixCalls() {
		for _, e := range sampleEditions() {
			checkFixMemory(t, call, e.g, e.fixes, nil)
			checkFixMemory(t, call, e.g, nil, e.fixes)
			checkFixMemory(t, call, e.g, e.fixes, e.fixes)
			checkFixMemory(t, call, e.g, madeOf(e.g, fill(len(e.g), len(e.g[0]), leastFor)), e.fixes)
		}
	}
}

// Promises 98 to 101 and 103 to 108: invalid arguments stay as they are, too.
func TestNoFixesStay(t *testing.T) {
	for _, call := range fixCalls() {
		for _, fixes := range badFixes() {
			checkFixMemory(t, call, sixCells(), fixes, fixes)
			checkFixMemory(t, call, sixCells(), []impl.Fix{fix(0, 0, 10, 9)}, fixes)
		}
		for _, fixes := range notShort() {
			checkFixMemory(t, call, sixCells(), fixes, fixes)
		}
		for _, g := range badGrids() {
			checkFixMemory(t, call, g, []impl.Fix{fix(0, 0, 1, 9)}, []impl.Fix{fix(0, 0, 1, 8)})
		}
	}
}

// Promises 102 and 109: two grids stay, and corrections are new each time.
func TestTwoEditionsStay(t *testing.T) {
	for a, b := range editionPairs() {
		x, y := roomy(a), roomy(b)
		first := fixResult{fixes: fixesMake(t, x, y)}
		kept := first.clone()
		second := fixResult{fixes: fixesMake(t, x, y)}
		first.spoil()
		third := fixResult{fixes: fixesMake(t, x, y)}
		impl.EditionFar(x, y)
		if !roomyStays(x, a) || !roomyStays(y, b) {
			t.Fatalf("%v and %v are %v and %v then", a, b, x, y)
		}
		if !second.is(kept) || !third.is(kept) {
			t.Fatalf("FixesMake of %v and %v is %v, then %v and %v", a, b, kept, second, third)
		}
	}
}

// Promises 102 and 109: lists that are no grid stay, too.
func TestTwoNoGridsStay(t *testing.T) {
	for _, bad := range badGrids() {
		for _, g := range badGrids() {
			x, y := roomy(bad), roomy(g)
			impl.FixesMake(x, y)
			impl.EditionFar(x, y)
			if !roomyStays(x, bad) || !roomyStays(y, g) {
				t.Fatal("FixesMake or EditionFar changed its arguments")
			}
		}
	}
}
