package tests

import (
	"slices"
	"testing"

	"loop.example/reliefmaps/impl"
)

type edgeCall struct {
	name string
	run  func(a, b [][]int) [][][]int
}

// edgeCalls has the calls of the chapter with grids; each returns all its grids.
func edgeCalls() []edgeCall {
	return []edgeCall{
		{"GridsAgree", func(a, b [][]int) [][][]int {
			impl.GridsAgree(a, b)
			return nil
		}},
		{"GridsGap", func(a, b [][]int) [][][]int {
			impl.GridsGap(a, b)
			return nil
		}},
		{"GridsJoin", func(a, b [][]int) [][][]int {
			joined, _ := impl.GridsJoin(a, b)
			return [][][]int{joined}
		}},
		{"GridsMend", func(a, b [][]int) [][][]int {
			west, east, _ := impl.GridsMend(a, b)
			return [][][]int{west, east}
		}},
	}
}

// checkEdgeMemory fails if a call changes its arguments, or if its results share memory with these, with each other or with later results.
func checkEdgeMemory(t *testing.T, call edgeCall, a, b [][]int) {
	t.Helper()
	x, y := roomy(a), roomy(b)
	first, second := call.run(x, y), call.run(x, y)
	if !roomyStays(x, a) || !roomyStays(y, b) {
		t.Fatalf("%s changed its arguments %v and %v", call.name, a, b)
	}
	for i, g := range first {
		if !sameGrid(g, second[i]) {
			t.Fatalf("results of %s of %v and %v share memory", call.name, a, b)
		}
		if !scribble(g) {
			t.Fatalf("%s of %v and %v returned rows that share memory", call.name, a, b)
		}
	}
	if !roomyStays(x, a) || !roomyStays(y, b) {
		t.Fatalf("%s of %v and %v shares memory with its arguments", call.name, a, b)
	}
	for i, g := range call.run(x, y) {
		if !sameGrid(g, second[i]) {
			t.Fatalf("%s of %v and %v shares memory with a later result", call.name, a, b)
		}
	}
}

// Promises 82 to 85.
func TestEdgeMemory(t *testing.T) {
	for _, call := range edgeCalls() {
		for a, b := range gridPairs() {
			checkEdgeMemory(t, call, a, b)
		}
	}
}

// Promise 84: both arguments may be one, and rows may be one slice; the results are not.
func TestGridsMendOfOne(t *testing.T) {
	row := []int{1, 2, 8}
	g := [][]int{row, row}
	west, east := mended(t, g, g)
	if !sameGrid(west, [][]int{{1, 2, 4}, {1, 2, 4}}) || !sameGrid(east, [][]int{{4, 2, 8}, {4, 2, 8}}) {
		t.Errorf("GridsMend of a grid and itself returned %v and %v", west, east)
	}
	if !scribble(west) || !sameGrid(east, [][]int{{4, 2, 8}, {4, 2, 8}}) || !scribble(east) || !slices.Equal(row, []int{1, 2, 8}) {
		t.Errorf("the results share memory: %v, %v", east, row)
	}
}

// Promise 83: both arguments may be one.
func TestGridsJoinOfOne(t *testing.T) {
	row := []int{3, 2, 3}
	g := [][]int{row, row}
	joined, ok := impl.GridsJoin(g, g)
	wantGrid(t, "GridsJoin", joined, ok, [][]int{{3, 2, 3, 2, 3}, {3, 2, 3, 2, 3}})
	if !scribble(joined) || !slices.Equal(row, []int{3, 2, 3}) {
		t.Errorf("the result shares memory: %v", row)
	}
}

// Promise 79: results share no memory with later ones.
func TestSheetsBetweenMemory(t *testing.T) {
	for _, corner := range []int{0, 3, 4, 7, 15, 19} {
		first, ok := impl.SheetsBetween(0, 0, corner, corner)
		kept := slices.Clone(first)
		second, fine := impl.SheetsBetween(0, 0, corner, corner)
		for i := range first[:cap(first)] {
			first[:cap(first)][i] = "?"
		}
		third, _ := impl.SheetsBetween(0, 0, corner, corner)
		if ok != fine || !slices.Equal(second, kept) || !slices.Equal(third, kept) {
			t.Errorf("SheetsBetween up to %d is %v, then %v and %v", corner, kept, second, third)
		}
	}
}

// Invalid arguments stay as they are.
func TestBadGridsStayAtEdges(t *testing.T) {
	for name, bad := range badGrids() {
		kept, good := cloneGrid(bad), mixed(max(1, min(7, len(bad))), 3)
		for _, call := range edgeCalls() {
			call.run(bad, good)
			call.run(good, bad)
			call.run(bad, bad)
		}
		if !sameGrid(bad, kept) || !sameGrid(good, mixed(len(good), 3)) {
			t.Errorf("%s changed", name)
		}
	}
}
