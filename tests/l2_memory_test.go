package tests

import (
	"slices"
	"testing"

	"loop.example/reliefmaps/impl"
)

// waterLists has the calls of the chapter that return a list.
func waterLists() []listCall {
	return []listCall{
		{"WaterRun", func(g [][]int) ([]int, bool) { return impl.WaterRun(g, 0, 0) }},
		{"WaterSinks", func(g [][]int) ([]int, bool) { return impl.WaterSinks(g), true }},
		{"WaterBasins", impl.WaterBasins},
		{"WaterFlow", impl.WaterFlow},
	}
}

// Promises 14 to 16 and 18.
func TestWaterListMemory(t *testing.T) {
	for _, call := range waterLists() {
		for _, g := range sampleGrids() {
			checkListMemory(t, call, g)
		}
		for _, g := range poolGrids() {
			checkListMemory(t, call, g)
		}
	}
}

// Promise 22: a grid that is drained ahead is new memory, too.
func TestWaterFillMemory(t *testing.T) {
	call := gridCall{"WaterFill", impl.WaterFill}
	for _, g := range sampleGrids() {
		checkGridMemory(t, call, g)
	}
	for _, g := range poolGrids() {
		checkGridMemory(t, call, g)
	}
}

// Promises 13, 17, 19 to 21, 23 and 24: what returns no list leaves its argument alone, too.
func TestWaterReadersChangeNothing(t *testing.T) {
	for _, g := range append(sampleGrids(), poolGrids()...) {
		x := roomy(g)
		impl.WaterNext(x, 0, 0)
		impl.WaterBasin(x, 0)
		impl.WaterLongest(x)
		impl.WaterLeaves(x, len(g)/2, len(g[0])/2)
		impl.WaterDrained(x)
		impl.WaterPool(x)
		impl.WaterDivide(x)
		if !roomyStays(x, g) {
			t.Fatalf("an argument changed: %v", g)
		}
	}
}

// Promise 22: rows of an argument may be one slice, those of the result are not.
func TestWaterFillOfRowsThatAreOne(t *testing.T) {
	row := []int{9, 1, 9}
	border := []int{9, 9, 9}
	g := [][]int{border, row, row, border}
	x, ok := impl.WaterFill(g)
	wantGrid(t, "WaterFill", x, ok, [][]int{{9, 9, 9}, {9, 9, 9}, {9, 9, 9}, {9, 9, 9}})
	if !scribble(x) || !slices.Equal(row, []int{9, 1, 9}) || !slices.Equal(border, []int{9, 9, 9}) {
		t.Errorf("the rows share memory: %v, %v", row, border)
	}
}

// Invalid arguments stay as they are.
func TestBadGridsStayInWater(t *testing.T) {
	for name, bad := range badGrids() {
		kept := cloneGrid(bad)
		impl.WaterNext(bad, 0, 0)
		impl.WaterBasin(bad, 0)
		impl.WaterLongest(bad)
		impl.WaterLeaves(bad, 0, 0)
		impl.WaterDrained(bad)
		impl.WaterFill(bad)
		impl.WaterPool(bad)
		impl.WaterDivide(bad)
		for _, call := range waterLists() {
			call.run(bad)
		}
		if !sameGrid(bad, kept) {
			t.Errorf("%s changed", name)
		}
	}
}
