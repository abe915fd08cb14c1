package tests

import (
	"iter"
	"testing"

	"loop.example/reliefmaps/impl"
)

// editionPairs has pairs of grids of one size, equal ones among them and such that differ at one cell.
func editionPairs() iter.Seq2[[][]int, [][]int] {
	return func(yield func(a, b [][]int) bool) {
		for _, a := range editionGrids() {
			rows, cols := len(a), len(a[0])
			others := [][][]int{cloneGrid(a), steps(rows, cols, 100, rows+cols), fill(rows, cols, leastFor), fill(rows, cols, mostFor)}
			for _, fixes := range shortLists(a) {
				b, _ := doneOf(a, fixes)
				others = append(others, b)
			}
			for _, b := range others {
				if !yield(a, b) || !yield(b, a) {
					return
				}
			}
		}
	}
}

// Promise 109: distances written out.
func TestEditionFarByHand(t *testing.T) {
	for _, p := range []struct {
		a, b string
		want int
	}{
		{"00", "00", 0},
		{"00", "99", 1},
		{"01 02 03", "01 02 03", 0},
		{"01 02 03", "01 02 04", 1},
		{"01 02 03", "02 03 01", 3},
		{"01/02/03", "03/02/01", 2},
		{"10 11 12/13 14 15", "10 11 12/13 14 15", 0},
		{"10 11 12/13 14 15", "10 11 12/13 14 99", 1},
		{"10 11 12/13 14 15", "13 14 15/10 11 12", 6},
		{"01 02/03 04", "01 02/03 04 05", -1},
		{"01 02/03 04", "01 03/02 04", 2},
		{"01 02 03 04", "01 02/03 04", -1},
		{"01 02 03 04", "01/02/03/04", -1},
		{"01 02 03/04 05 06", "01 02/03 04/05 06", -1},
		{"07 07 07/07 07 07", "07 07/07 07/07 07", -1},
		{"07", "07 07", -1},
		{"07", "07/07", -1},
	} {
		a, _ := impl.GridFrom(p.a)
		b, _ := impl.GridFrom(p.b)
		if got, exchanged := impl.EditionFar(a, b), impl.EditionFar(b, a); got != p.want || exchanged != p.want {
			t.Errorf("EditionFar of %q and %q = %d, exchanged %d; want %d", p.a, p.b, got, exchanged, p.want)
		}
	}
}

// Promise 109.
func TestEditionFar(t *testing.T) {
	for a, b := range editionPairs() {
		far := impl.EditionFar(a, b)
		if far != farOf(a, b) || far != impl.EditionFar(b, a) || (far == 0) != sameGrid(a, b) {
			t.Fatalf("EditionFar of %v and %v = %d", a, b, far)
		}
	}
}

// Promise 109: over a third grid, the first one with one height changed.
func TestEditionFarOverAThird(t *testing.T) {
	for a, b := range editionPairs() {
		far := impl.EditionFar(a, b)
		for r := range a {
			for c := range a[r] {
				third := cloneGrid(a)
				third[r][c] = (a[r][c] + 1 + 7*(r+c)) % 100
				if over := impl.EditionFar(a, third) + impl.EditionFar(third, b); impl.EditionFar(a, third) != 1 || far > over {
					t.Fatalf("EditionFar of %v and %v = %d, but over %v %d", a, b, far, third, over)
				}
			}
		}
	}
}

// wantUnlike fails unless two lists are refused by the functions of two grids.
func wantUnlike(t *testing.T, name string, a, b [][]int) {
	t.Helper()
	if got := impl.EditionFar(a, b); got != -1 {
		t.Errorf("EditionFar of %s = %d", name, got)
	}
	made, ok := impl.FixesMake(a, b)
	wantNoFixes(t, "FixesMake of "+name, made, ok)
}

// Promises 102 and 109: all pairs of unlike sizes, with the same height everywhere and with others.
func TestEditionsOfUnlikeSizes(t *testing.T) {
	for i, a := range mixedGrids() {
		for j, b := range mixedGrids() {
			if i == j {
				continue
			}
			wantUnlike(t, "grids of unlike sizes", a, b)
			wantUnlike(t, "level grids of unlike sizes", fill(len(a), len(a[0]), leastFor), fill(len(b), len(b[0]), leastFor))
		}
	}
}

// Promises 102 and 109: lists that are no grid, as either argument and as both.
func TestEditionsOfNoGrids(t *testing.T) {
	for name, bad := range badGrids() {
		for _, g := range mixedGrids() {
			wantUnlike(t, name, bad, g)
			wantUnlike(t, name+" as the second one", g, bad)
		}
		for other, worse := range badGrids() {
			wantUnlike(t, name+" and "+other, bad, worse)
		}
		wantUnlike(t, name+" twice", bad, bad)
	}
	for _, n := range noHeights() {
		for i := range 6 {
			bad := sixCells()
			bad[i/3][i%3] = n
			wantUnlike(t, "a grid but for one height", bad, sixCells())
			wantUnlike(t, "a grid but for one height of the second one", sixCells(), bad)
		}
	}
}
