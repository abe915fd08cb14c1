package tests

import (
	"slices"
	"testing"

	"loop.example/reliefmaps/impl"
)

// Promises 15 to 19 and 24: values written out.
func TestWaterBasinsByHand(t *testing.T) {
	for _, x := range []struct {
		g       [][]int
		ends    []int
		flow    []int
		longest int
		divide  int
	}{
		{[][]int{{0}}, []int{0}, []int{1}, 1, 0},
		{[][]int{{99}}, []int{0}, []int{1}, 1, 0},
		{[][]int{{4, 4}}, []int{0, 1}, []int{1, 1}, 1, 1},
		{[][]int{{0, 99}}, []int{0, 0}, []int{2, 1}, 2, 0},
		{[][]int{{2, 3, 2}}, []int{0, 2, 2}, []int{1, 1, 2}, 2, 1},
		{[][]int{{2}, {3}, {2}}, []int{0, 0, 2}, []int{2, 1, 1}, 2, 1},
		{[][]int{{3, 2, 1, 2, 3}}, []int{2, 2, 2, 2, 2}, []int{1, 2, 5, 2, 1}, 3, 0},
		{[][]int{{7, 7, 7}, {7, 7, 7}}, []int{0, 1, 2, 3, 4, 5}, []int{1, 1, 1, 1, 1, 1}, 1, 7},
		{[][]int{{5, 5, 5}, {5, 1, 4}, {5, 5, 5}}, []int{0, 4, 4, 4, 4, 4, 6, 4, 4}, []int{1, 1, 1, 1, 7, 3, 1, 1, 1}, 3, 4},
		{[][]int{{0, 1, 0}, {1, 2, 1}, {0, 1, 0}}, []int{0, 2, 2, 0, 2, 2, 6, 8, 8}, []int{2, 2, 4, 1, 1, 1, 1, 1, 2}, 3, 6},
		{[][]int{{9, 0, 9}, {0, 9, 0}, {9, 0, 9}}, []int{1, 1, 5, 3, 1, 5, 3, 7, 5}, []int{1, 3, 1, 2, 1, 3, 1, 1, 1}, 2, 7},
	} {
		ends, ok := impl.WaterBasins(x.g)
		wantList(t, "WaterBasins", x.g, ends, ok, x.ends)
		flow, ok := impl.WaterFlow(x.g)
		wantList(t, "WaterFlow", x.g, flow, ok, x.flow)
		if got := impl.WaterLongest(x.g); got != x.longest {
			t.Errorf("WaterLongest(%v) = %d, want %d", x.g, got, x.longest)
		}
		if got := impl.WaterDivide(x.g); got != x.divide {
			t.Errorf("WaterDivide(%v) = %d, want %d", x.g, got, x.divide)
		}
	}
}

// Promise 15.
func TestWaterSinks(t *testing.T) {
	for _, g := range waterGrids() {
		h := heightsOf(g)
		var want []int
		for i := range h {
			low := slices.ContainsFunc(besides(g, i), func(n int) bool { return h[n] < h[i] })
			if !low {
				want = append(want, i)
			}
			if h[i] == slices.Min(h) && low {
				t.Fatalf("a least height of %v is no sink", g)
			}
		}
		wantList(t, "WaterSinks", g, impl.WaterSinks(g), true, want)
	}
	for name, bad := range badGrids() {
		if x := impl.WaterSinks(bad); len(x) != 0 {
			t.Errorf("WaterSinks of %s is %v", name, x)
		}
	}
}

// Promise 16.
func TestWaterBasins(t *testing.T) {
	for _, g := range waterGrids() {
		ends, ok := impl.WaterBasins(g)
		var want []int
		for i := range heightsOf(g) {
			way := runOf(g, i)
			want = append(want, way[len(way)-1])
		}
		wantList(t, "WaterBasins", g, ends, ok, want)
		cells := 0
		for _, sink := range impl.WaterSinks(g) {
			cells += impl.WaterBasin(g, sink)
			if ends[sink] != sink {
				t.Fatalf("the sink %d of %v is not in its own basin", sink, g)
			}
		}
		if cells != len(ends) {
			t.Fatalf("the basins of %v have %d cells", g, cells)
		}
		for i, end := range ends {
			if ends[impl.WaterNext(g, i/len(g[0]), i%len(g[0]))] != end {
				t.Fatalf("the cell %d of %v is not in the basin of its WaterNext", i, g)
			}
		}
	}
	for name, bad := range badGrids() {
		x, ok := impl.WaterBasins(bad)
		wantNoList(t, "WaterBasins of "+name, x, ok)
	}
}

// Promise 17: for sinks, other cells, and indexes that are none.
func TestWaterBasin(t *testing.T) {
	for _, g := range waterGrids() {
		flow, ok := impl.WaterFlow(g)
		ends, fine := impl.WaterBasins(g)
		if !ok || !fine {
			t.Fatalf("WaterFlow or WaterBasins of %v failed", g)
		}
		for i := -2; i < len(flow)+2; i++ {
			want := -1
			if i >= 0 && i < len(flow) && nextOf(g, i) == i {
				want = flow[i]
			}
			got := impl.WaterBasin(g, i)
			if got != want || got == 0 {
				t.Fatalf("WaterBasin(%v, %d) = %d, want %d", g, i, got, want)
			}
			cells := 0
			for _, end := range ends {
				if end == i {
					cells++
				}
			}
			if want != -1 && cells != got {
				t.Fatalf("WaterBasin(%v, %d) = %d, but %d cells are in it", g, i, got, cells)
			}
		}
	}
}

// Promise 17: far indexes, and lists that are no grid.
func TestWaterBasinRefuses(t *testing.T) {
	flat := fill(7, 7, func(int) int { return 3 })
	for _, i := range oddNumbers() {
		want := -1
		if i >= 0 && i < 49 {
			want = 1
		}
		if got := impl.WaterBasin(flat, i); got != want {
			t.Errorf("WaterBasin of the index %d is %d", i, got)
		}
		for name, bad := range badGrids() {
			if got := impl.WaterBasin(bad, i); got != -1 {
				t.Errorf("WaterBasin of %s and the index %d is %d", name, i, got)
			}
		}
	}
}

// Promise 18.
func TestWaterFlow(t *testing.T) {
	for _, g := range waterGrids() {
		flow, ok := impl.WaterFlow(g)
		want := make([]int, len(heightsOf(g)))
		lengths := 0
		for i := range want {
			for _, n := range runOf(g, i) {
				want[n]++
			}
			lengths += len(run(t, g, i))
		}
		wantList(t, "WaterFlow", g, flow, ok, want)
		all := 0
		for i := range flow {
			sum := 1
			for k := range flow {
				if k != i && impl.WaterNext(g, k/len(g[0]), k%len(g[0])) == i {
					sum += flow[k]
				}
			}
			if flow[i] != sum {
				t.Fatalf("WaterFlow of %v is %v, but %d flows to the cell %d", g, flow, sum, i)
			}
			all += flow[i]
		}
		if all != lengths {
			t.Fatalf("WaterFlow of %v is %v, but the runs have %d cells", g, flow, lengths)
		}
	}
	for name, bad := range badGrids() {
		x, ok := impl.WaterFlow(bad)
		wantNoList(t, "WaterFlow of "+name, x, ok)
	}
}

// Promise 19.
func TestWaterLongest(t *testing.T) {
	for _, g := range waterGrids() {
		h := heightsOf(g)
		longest := 0
		for i := range h {
			longest = max(longest, len(run(t, g, i)))
		}
		got := impl.WaterLongest(g)
		if got != longest || got > slices.Max(h)-slices.Min(h)+1 {
			t.Fatalf("WaterLongest(%v) = %d, want %d", g, got, longest)
		}
	}
	for name, bad := range badGrids() {
		if got := impl.WaterLongest(bad); got != -1 {
			t.Errorf("WaterLongest of %s is %d", name, got)
		}
	}
}

// Promise 24.
func TestWaterDivide(t *testing.T) {
	for _, g := range waterGrids() {
		ends, ok := impl.WaterBasins(g)
		if !ok {
			t.Fatalf("WaterBasins of %v failed", g)
		}
		rows, cols := len(g), len(g[0])
		want := 0
		for i := range ends {
			if i%cols < cols-1 && ends[i] != ends[i+1] {
				want++
			}
			if i+cols < len(ends) && ends[i] != ends[i+cols] {
				want++
			}
		}
		got := impl.WaterDivide(g)
		pairs := rows*(cols-1) + cols*(rows-1)
		if got != want || got > pairs || (got == 0) != (len(impl.WaterSinks(g)) == 1) {
			t.Fatalf("WaterDivide(%v) = %d, want %d", g, got, want)
		}
	}
	for name, bad := range badGrids() {
		if got := impl.WaterDivide(bad); got != -1 {
			t.Errorf("WaterDivide of %s is %d", name, got)
		}
	}
}
