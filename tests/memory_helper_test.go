package tests

import (
	"slices"
	"testing"
)

const mark = -555

// roomy returns a copy of a grid with room behind its rows and behind each row, filled with marks.
func roomy(g [][]int) [][]int {
	x := make([][]int, len(g)+2)
	for r := range x {
		x[r] = []int{mark}
	}
	for r := range g {
		row := make([]int, len(g[r])+3)
		for i := range row {
			row[i] = mark
		}
		copy(row, g[r])
		x[r] = row[:len(g[r])]
	}
	return x[:len(g)]
}

// roomyStays reports whether roomy(g) is as it was made, up to its capacity.
func roomyStays(x, g [][]int) bool {
	if !sameGrid(x, g) {
		return false
	}
	for _, row := range x[len(x):cap(x)] {
		if len(row) != 1 || row[0] != mark {
			return false
		}
	}
	for _, row := range x {
		for _, h := range row[len(row):cap(row)] {
			if h != mark {
				return false
			}
		}
	}
	return true
}

// scribble writes into a result up to the capacity of its rows, and reports whether no two of these share memory.
func scribble(g [][]int) bool {
	for r := range g {
		row := g[r][:cap(g[r])]
		for i := range row {
			row[i] = 1000 + r
		}
	}
	for r := range g {
		for _, h := range g[r][:cap(g[r])] {
			if h != 1000+r {
				return false
			}
		}
	}
	for r := range g[:cap(g)] {
		g[:cap(g)][r] = []int{mark}
	}
	return true
}

type gridCall struct {
	name string
	run  func(g [][]int) ([][]int, bool)
}

// checkGridMemory fails if a call changes its argument, or if its result shares memory with it, with itself or with a later result.
func checkGridMemory(t *testing.T, call gridCall, g [][]int) {
	t.Helper()
	x := roomy(g)
	first, ok := call.run(x)
	kept := cloneGrid(first)
	if !roomyStays(x, g) {
		t.Fatalf("%s changed its argument %v", call.name, g)
	}
	if !ok {
		return
	}
	second, _ := call.run(x)
	if !scribble(first) {
		t.Fatalf("%s of %v returned rows that share memory", call.name, g)
	}
	if !roomyStays(x, g) {
		t.Fatalf("%s of %v shares memory with its argument", call.name, g)
	}
	if !sameGrid(second, kept) {
		t.Fatalf("%s of %v shares memory with a later result", call.name, g)
	}
}

type listCall struct {
	name string
	run  func(g [][]int) ([]int, bool)
}

// checkListMemory fails if a call changes its argument, or if its result shares memory with it or with a later result.
func checkListMemory(t *testing.T, call listCall, g [][]int) {
	t.Helper()
	x := roomy(g)
	first, ok := call.run(x)
	if !ok {
		t.Fatalf("%s of %v failed", call.name, g)
	}
	kept := slices.Clone(first)
	if !roomyStays(x, g) {
		t.Fatalf("%s changed its argument %v", call.name, g)
	}
	second, _ := call.run(x)
	for i := range first[:cap(first)] {
		first[:cap(first)][i] = mark - 1
	}
	if !roomyStays(x, g) {
		t.Fatalf("%s of %v shares memory with its argument", call.name, g)
	}
	third, _ := call.run(x)
	if !slices.Equal(second, kept) || !slices.Equal(third, kept) {
		t.Fatalf("%s of %v shares memory with a later result", call.name, g)
	}
}
