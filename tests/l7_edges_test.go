package tests

import (
	"testing"

	"loop.example/reliefmaps/impl"
)

// Promises 82 to 85: edges written out; nil where there is no joined grid.
func TestEdgesByHand(t *testing.T) {
	for _, x := range []struct {
		a, b, joined, west, east [][]int
		gap                      int
	}{
		{[][]int{{7}}, [][]int{{7}}, [][]int{{7}}, [][]int{{7}}, [][]int{{7}}, 0},
		{[][]int{{7}}, [][]int{{8}}, nil, [][]int{{7}}, [][]int{{7}}, 1},
		{[][]int{{8}}, [][]int{{7}}, nil, [][]int{{7}}, [][]int{{7}}, 1},
		{[][]int{{0}}, [][]int{{99}}, nil, [][]int{{49}}, [][]int{{49}}, 99},
		{[][]int{{99}}, [][]int{{0}}, nil, [][]int{{49}}, [][]int{{49}}, 99},
		{[][]int{{99}}, [][]int{{99}}, [][]int{{99}}, [][]int{{99}}, [][]int{{99}}, 0},
		{[][]int{{99}}, [][]int{{98}}, nil, [][]int{{98}}, [][]int{{98}}, 1},
		{[][]int{{0}}, [][]int{{1}}, nil, [][]int{{0}}, [][]int{{0}}, 1},
		{[][]int{{1, 4}}, [][]int{{7, 2}}, nil, [][]int{{1, 5}}, [][]int{{5, 2}}, 3},
		{[][]int{{1, 4}}, [][]int{{4, 2}}, [][]int{{1, 4, 2}}, [][]int{{1, 4}}, [][]int{{4, 2}}, 0},
		// The other way around they agree, too, but the first heights are no common ones.
		{[][]int{{1, 4}}, [][]int{{1, 4}}, nil, [][]int{{1, 2}}, [][]int{{2, 4}}, 3},
		{[][]int{{1, 4}}, [][]int{{2, 1}}, nil, [][]int{{1, 3}}, [][]int{{3, 1}}, 2},
		{[][]int{{1, 4}}, [][]int{{4}}, [][]int{{1, 4}}, [][]int{{1, 4}}, [][]int{{4}}, 0},
		{[][]int{{4}}, [][]int{{4, 1}}, [][]int{{4, 1}}, [][]int{{4}}, [][]int{{4, 1}}, 0},
		{[][]int{{1}, {2}}, [][]int{{1}, {2}}, [][]int{{1}, {2}}, [][]int{{1}, {2}}, [][]int{{1}, {2}}, 0},
		{[][]int{{1}, {2}}, [][]int{{2}, {1}}, nil, [][]int{{1}, {1}}, [][]int{{1}, {1}}, 2},
		{[][]int{{1}, {2}}, [][]int{{1}, {7}}, nil, [][]int{{1}, {4}}, [][]int{{1}, {4}}, 5},
		{[][]int{{5}, {2}}, [][]int{{1}, {2}}, nil, [][]int{{3}, {2}}, [][]int{{3}, {2}}, 4},
		{[][]int{{1, 9}, {2, 8}}, [][]int{{9, 3}, {8, 4}}, [][]int{{1, 9, 3}, {2, 8, 4}}, [][]int{{1, 9}, {2, 8}}, [][]int{{9, 3}, {8, 4}}, 0},
		{[][]int{{1, 9}, {2, 8}}, [][]int{{0, 3}, {50, 4}}, nil, [][]int{{1, 4}, {2, 29}}, [][]int{{4, 3}, {29, 4}}, 51},
		{[][]int{{1, 2, 3, 4}}, [][]int{{4, 5, 6, 7}}, [][]int{{1, 2, 3, 4, 5, 6, 7}}, [][]int{{1, 2, 3, 4}}, [][]int{{4, 5, 6, 7}}, 0},
		{[][]int{{1, 2, 3, 4}}, [][]int{{4, 5, 6, 7, 8}}, nil, [][]int{{1, 2, 3, 4}}, [][]int{{4, 5, 6, 7, 8}}, 0},
	} {
		if got := impl.GridsAgree(x.a, x.b); got != (x.gap == 0) {
			t.Errorf("GridsAgree(%v, %v) = %v", x.a, x.b, got)
		}
		if got := impl.GridsGap(x.a, x.b); got != x.gap {
			t.Errorf("GridsGap(%v, %v) = %d; want %d", x.a, x.b, got, x.gap)
		}
		got, ok := impl.GridsJoin(x.a, x.b)
		if ok != (x.joined != nil) || !sameGrid(got, x.joined) {
			t.Errorf("GridsJoin(%v, %v) = %v, %v; want %v", x.a, x.b, got, ok, x.joined)
		}
		west, east, ok := impl.GridsMend(x.a, x.b)
		if !ok || !sameGrid(west, x.west) || !sameGrid(east, x.east) {
			t.Errorf("GridsMend(%v, %v) = %v, %v, %v; want %v, %v", x.a, x.b, west, east, ok, x.west, x.east)
		}
	}
}

// Promises 82, 84 and 85: all pairs of heights.
func TestEdgesOfTwoHeights(t *testing.T) {
	for h := range 100 {
		for k := range 100 {
			a, b := [][]int{{h}}, [][]int{{k}}
			half := min(h, k)
			for 2*half+2 <= h+k {
				half++
			}
			if west, east := mended(t, a, b); west[0][0] != half || east[0][0] != half {
				t.Errorf("GridsMend(%v, %v) = %v, %v; want %d", a, b, west, east, half)
			}
			if got := impl.GridsGap(a, b); got != max(h-k, k-h) {
				t.Errorf("GridsGap(%v, %v) = %d", a, b, got)
			}
			if got := impl.GridsAgree(a, b); got != (h == k) {
				t.Errorf("GridsAgree(%v, %v) = %v", a, b, got)
			}
		}
	}
}

// Promise 82.
func TestGridsAgree(t *testing.T) {
	for a, b := range gridPairs() {
		agree := impl.GridsAgree(a, b)
		if agree != agreesWith(a, b) {
			t.Fatalf("GridsAgree(%v, %v) = %v", a, b, agree)
		}
		if agree != impl.GridsAgree(mirror(t, b), mirror(t, a)) {
			t.Fatalf("GridsAgree(%v, %v) = %v, but not mirrored and exchanged", a, b, agree)
		}
		if !agree {
			continue
		}
		if got := impl.GridsGap(a, b); got != 0 {
			t.Fatalf("GridsGap(%v, %v) = %d", a, b, got)
		}
		if west, east := mended(t, a, b); !sameGrid(west, a) || !sameGrid(east, b) {
			t.Fatalf("GridsMend(%v, %v) = %v, %v", a, b, west, east)
		}
	}
}

// Promise 82: a single height that differs, in each row and by each step.
func TestGridsAgreeAtEachRow(t *testing.T) {
	for rows := 1; rows <= 7; rows++ {
		a := mixed(rows, 3)
		b := fitted(a, mixed(rows, 4))
		if !impl.GridsAgree(a, b) {
			t.Errorf("GridsAgree(%v, %v) is false", a, b)
		}
		for r := range rows {
			for h := range 100 {
				x := cloneGrid(b)
				x[r][0] = h
				if got := impl.GridsAgree(a, x); got != (h == a[r][2]) {
					t.Errorf("GridsAgree(%v, %v) = %v", a, x, got)
				}
			}
		}
	}
}

// Promise 83.
func TestGridsJoin(t *testing.T) {
	for a, b := range gridPairs() {
		got, ok := impl.GridsJoin(a, b)
		cols := len(a[0]) + len(b[0]) - 1
		if ok != (agreesWith(a, b) && cols <= 7) {
			t.Fatalf("GridsJoin(%v, %v) = %v, %v", a, b, got, ok)
		}
		if !ok {
			wantNone(t, "GridsJoin", got, ok)
			continue
		}
		if len(got) != len(a) || len(got[0]) != cols {
			t.Fatalf("GridsJoin(%v, %v) = %v", a, b, got)
		}
		part, ok := impl.GridPart(got, 0, len(a)-1, 0, len(a[0])-1)
		wantGrid(t, "the western part", part, ok, a)
		part, ok = impl.GridPart(got, 0, len(a)-1, len(a[0])-1, cols-1)
		wantGrid(t, "the eastern part", part, ok, b)
	}
}

// Promise 83: grids of each width that agree, joined to at most 7 columns.
func TestGridsJoinLimits(t *testing.T) {
	for rows := 1; rows <= 7; rows++ {
		for m := 1; m <= 7; m++ {
			for n := 1; n <= 7; n++ {
				a := mixed(rows, m)
				b := fitted(a, mixed(rows, n))
				got, ok := impl.GridsJoin(a, b)
				if m+n-1 > 7 {
					wantNone(t, "GridsJoin of too many columns", got, ok)
				} else if !ok || len(got) != rows || len(got[0]) != m+n-1 {
					t.Errorf("GridsJoin(%v, %v) = %v, %v", a, b, got, ok)
				}
			}
		}
	}
}

// Promise 84.
func TestGridsMend(t *testing.T) {
	for a, b := range gridPairs() {
		west, east := mended(t, a, b)
		if !impl.GridValid(west) || !impl.GridValid(east) || !impl.GridsAgree(west, east) {
			t.Fatalf("GridsMend(%v, %v) = %v, %v, which do not agree", a, b, west, east)
		}
		if len(west) != len(a) || len(east) != len(b) {
			t.Fatalf("GridsMend(%v, %v) = %v, %v", a, b, west, east)
		}
		for r := range a {
			// All but the common column is as before.
			last, first := west[r][len(west[r])-1], east[r][0]
			x, y := cloneGrid(a), cloneGrid(b)
			x[r][len(x[r])-1], y[r][0] = last, first
			if !sameGrid([][]int{west[r], east[r]}, [][]int{x[r], y[r]}) {
				t.Fatalf("GridsMend(%v, %v) = %v, %v", a, b, west, east)
			}
			h, k := a[r][len(a[r])-1], b[r][0]
			if last < min(h, k) || last > max(h, k) || last != (h+k)/2 {
				t.Fatalf("GridsMend(%v, %v) = %v, %v, with %d between %d and %d", a, b, west, east, last, h, k)
			}
		}
	}
}

// Promise 85.
func TestGridsGap(t *testing.T) {
	for a, b := range gridPairs() {
		gap := impl.GridsGap(a, b)
		if gap != gapOf(a, b) {
			t.Fatalf("GridsGap(%v, %v) = %d; want %d", a, b, gap, gapOf(a, b))
		}
		if (gap == 0) != impl.GridsAgree(a, b) {
			t.Fatalf("GridsGap(%v, %v) = %d, GridsAgree is %v", a, b, gap, impl.GridsAgree(a, b))
		}
		if got := impl.GridsGap(mirror(t, b), mirror(t, a)); got != gap {
			t.Fatalf("GridsGap(%v, %v) = %d, mirrored and exchanged it is %d", a, b, gap, got)
		}
		west, east := mended(t, a, b)
		if got := moved(a, west) + moved(b, east); got != gap {
			t.Fatalf("GridsGap(%v, %v) = %d, but mending moves by %d", a, b, gap, got)
		}
	}
}

// wantNoEdge fails unless all calls refuse both lists.
func wantNoEdge(t *testing.T, name string, a, b [][]int) {
	t.Helper()
	if impl.GridsAgree(a, b) {
		t.Errorf("GridsAgree of %s is true", name)
	}
	if got := impl.GridsGap(a, b); got != -1 {
		t.Errorf("GridsGap of %s is %d", name, got)
	}
	joined, ok := impl.GridsJoin(a, b)
	wantNone(t, "GridsJoin of "+name, joined, ok)
	west, east, ok := impl.GridsMend(a, b)
	wantNone(t, "GridsMend of "+name, west, ok)
	wantNone(t, "GridsMend of "+name, east, ok)
}

// Promises 82 to 85: lists that are no grid, as either argument and as both.
func TestEdgesRefuseNoGrids(t *testing.T) {
	for name, bad := range badGrids() {
		for rows := 1; rows <= 7; rows++ {
			for _, cols := range []int{1, 2, 7} {
				good := fill(rows, cols, func(int) int { return 1 })
				wantNoEdge(t, "a western one: "+name, bad, good)
				wantNoEdge(t, "an eastern one: "+name, good, bad)
			}
		}
		for other, worse := range badGrids() {
			wantNoEdge(t, name+" and "+other, bad, worse)
		}
	}
}

// Promises 82 to 85: grids of unequal numbers of rows.
func TestEdgesRefuseOtherRows(t *testing.T) {
	for m := 1; m <= 7; m++ {
		for n := 1; n <= 7; n++ {
			for cols := 1; cols <= 7; cols++ {
				if m != n {
					level := func(int) int { return 5 }
					wantNoEdge(t, "unequal rows", fill(m, cols, level), fill(n, 1, level))
					wantNoEdge(t, "unequal rows", fill(m, 2, level), fill(n, cols, level))
				}
			}
		}
	}
}
