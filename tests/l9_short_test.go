package tests

import (
	"slices"
	"testing"

	"loop.example/reliefmaps/impl"
)

// Promises 101 and 103: lists written out.
func TestFixesShortByHand(t *testing.T) {
	g := sixCells()
	for _, p := range []struct {
		name        string
		fixes, want []impl.Fix
	}{
		{"nil", nil, nil},
		{"one", []impl.Fix{fix(1, 2, 15, 99)}, []impl.Fix{fix(1, 2, 15, 99)}},
		{"a row, sorted", []impl.Fix{fix(0, 0, 10, 1), fix(0, 1, 11, 1), fix(0, 2, 12, 1)}, []impl.Fix{fix(0, 0, 10, 1), fix(0, 1, 11, 1), fix(0, 2, 12, 1)}},
		{"a row from behind", []impl.Fix{fix(0, 2, 12, 1), fix(0, 1, 11, 1), fix(0, 0, 10, 1)}, []impl.Fix{fix(0, 0, 10, 1), fix(0, 1, 11, 1), fix(0, 2, 12, 1)}},
		{"by row, then column", []impl.Fix{fix(0, 2, 12, 1), fix(1, 0, 13, 1)}, []impl.Fix{fix(0, 2, 12, 1), fix(1, 0, 13, 1)}},
		{"by column, then row", []impl.Fix{fix(1, 0, 13, 1), fix(0, 2, 12, 1)}, []impl.Fix{fix(0, 2, 12, 1), fix(1, 0, 13, 1)}},
		{"a cell twice", []impl.Fix{fix(1, 1, 14, 3), fix(1, 1, 3, 5)}, []impl.Fix{fix(1, 1, 14, 5)}},
		{"a cell three times", []impl.Fix{fix(1, 1, 14, 3), fix(1, 1, 3, 14), fix(1, 1, 14, 3)}, []impl.Fix{fix(1, 1, 14, 3)}},
		{"a cell there and back", []impl.Fix{fix(1, 1, 14, 3), fix(1, 1, 3, 14)}, nil},
		{"there over two and back", []impl.Fix{fix(1, 1, 14, 3), fix(1, 1, 3, 4), fix(1, 1, 4, 14)}, nil},
		{"there and back ahead of another", []impl.Fix{fix(1, 1, 14, 3), fix(1, 1, 3, 14), fix(0, 0, 10, 0)}, []impl.Fix{fix(0, 0, 10, 0)}},
		{"another between there and back", []impl.Fix{fix(1, 1, 14, 3), fix(0, 0, 10, 0), fix(1, 1, 3, 14)}, []impl.Fix{fix(0, 0, 10, 0)}},
		{"two cells twice", []impl.Fix{fix(1, 1, 14, 3), fix(0, 0, 10, 3), fix(1, 1, 3, 10), fix(0, 0, 3, 14)}, []impl.Fix{fix(0, 0, 10, 14), fix(1, 1, 14, 10)}},
		{"sixty of one cell", alternating(60), nil},
		{"59 of one cell", alternating(59), []impl.Fix{fix(0, 0, 10, 9)}},
		{"sixty of all cells", walk6(60), []impl.Fix{fix(0, 0, 10, 20), fix(0, 1, 11, 21), fix(0, 2, 12, 22), fix(1, 0, 13, 23), fix(1, 1, 14, 24), fix(1, 2, 15, 25)}},
	} {
		t.Run(p.name, func(t *testing.T) {
			if got := fixesShort(t, g, p.fixes); !slices.Equal(got, p.want) {
				t.Errorf("FixesShort returned %v; want %v", got, p.want)
			}
			if got := impl.FixesAre(g, p.fixes); got != slices.Equal(p.fixes, p.want) {
				t.Errorf("FixesAre = %v", got)
			}
			if !impl.FixesAre(g, p.want) {
				t.Errorf("FixesAre of %v is false", p.want)
			}
		})
	}
}

// Promise 101.
func TestFixesShort(t *testing.T) {
	for _, e := range sampleEditions() {
		few := fixesShort(t, e.g, e.fixes)
		if !impl.FixesAre(e.g, few) || !isShortOf(few) || len(few) > len(e.fixes) {
			t.Fatalf("FixesShort of %v and %v returned %v", e.g, e.fixes, few)
		}
		if end := edition(t, e.g, few); !sameGrid(end, edition(t, e.g, e.fixes)) {
			t.Fatalf("FixesShort of %v and %v returned %v, which leads to %v", e.g, e.fixes, few, end)
		}
		if again := fixesShort(t, e.g, few); !slices.Equal(again, few) {
			t.Fatalf("FixesShort of %v and %v returned %v, and of these %v", e.g, e.fixes, few, again)
		}
	}
}

// Promise 102: lists written out.
func TestFixesMakeByHand(t *testing.T) {
	for _, p := range []struct {
		a, b [][]int
		want []impl.Fix
	}{
		{[][]int{{7}}, [][]int{{7}}, nil},
		{[][]int{{0}}, [][]int{{99}}, []impl.Fix{fix(0, 0, 0, 99)}},
		{[][]int{{1, 2, 3}}, [][]int{{3, 2, 1}}, []impl.Fix{fix(0, 0, 1, 3), fix(0, 2, 3, 1)}},
		{[][]int{{1}, {2}, {3}}, [][]int{{1}, {3}, {2}}, []impl.Fix{fix(1, 0, 2, 3), fix(2, 0, 3, 2)}},
		{sixCells(), [][]int{{10, 11, 0}, {99, 14, 16}}, []impl.Fix{fix(0, 2, 12, 0), fix(1, 0, 13, 99), fix(1, 2, 15, 16)}},
		{sixCells(), sixCells(), nil},
	} {
		if got := fixesMake(t, p.a, p.b); !slices.Equal(got, p.want) {
			t.Errorf("FixesMake of %v and %v returned %v; want %v", p.a, p.b, got, p.want)
		}
		if got := impl.EditionFar(p.a, p.b); got != len(p.want) {
			t.Errorf("EditionFar of %v and %v = %d; want %d", p.a, p.b, got, len(p.want))
		}
	}
}

// Promise 102: pairs of grids of each size.
func TestFixesMake(t *testing.T) {
	for a, b := range editionPairs() {
		made := fixesMake(t, a, b)
		if !slices.Equal(made, madeOf(a, b)) || len(made) != impl.EditionFar(a, b) {
			t.Fatalf("FixesMake of %v and %v returned %v", a, b, made)
		}
		if !impl.FixesAre(a, made) || !sameGrid(edition(t, a, made), b) {
			t.Fatalf("FixesMake of %v and %v returned %v, which are not short or do not lead there", a, b, made)
		}
		back := fixesShort(t, b, fixesBack(t, a, made))
		if !slices.Equal(back, fixesMake(t, b, a)) {
			t.Fatalf("FixesMake of %v and %v is %v, which leads back by %v", a, b, made, back)
		}
	}
}

// Promise 103.
func TestFixesAre(t *testing.T) {
	for _, e := range sampleEditions() {
		is := impl.FixesAre(e.g, e.fixes)
		made := fixesMake(t, e.g, edition(t, e.g, e.fixes))
		if is != isShortOf(e.fixes) || is != slices.Equal(made, e.fixes) {
			t.Fatalf("FixesAre of %v and %v is %v; FixesMake returned %v", e.g, e.fixes, is, made)
		}
		cells := impl.FixesCells(e.g, e.fixes)
		if is && len(cells) != len(e.fixes) {
			t.Fatalf("%v and %v are short, of the cells %v", e.g, e.fixes, cells)
		}
		for n, s := range e.fixes {
			if is && cells[n] != s.Row*len(e.g[0])+s.Col {
				t.Fatalf("%v and %v are short, of the cells %v", e.g, e.fixes, cells)
			}
		}
	}
}

// Promise 103: all orders of corrections of three cells that do not lie in one row or column.
func TestFixesAreInOrder(t *testing.T) {
	three := []impl.Fix{fix(0, 2, 12, 0), fix(1, 0, 13, 0), fix(1, 1, 14, 0)}
	for a := range 3 {
		for b := range 3 {
			for c := range 3 {
				fixes := []impl.Fix{three[a], three[b], three[c]}
				if got := impl.FixesAre(sixCells(), fixes); got != (a == 0 && b == 1 && c == 2) {
					t.Errorf("FixesAre of %v = %v", fixes, got)
				}
			}
		}
	}
}

// Promises 103 to 105: corrections that are not short are some, but none that clash or are put together.
func TestNotShort(t *testing.T) {
	g := sixCells()
	for name, fixes := range notShort() {
		if !impl.FixesValid(g, fixes) || impl.FixesAre(g, fixes) {
			t.Errorf("%s: FixesValid is %v, FixesAre is %v", name, impl.FixesValid(g, fixes), impl.FixesAre(g, fixes))
		}
		checkAll(t, corrected{g, fixes})
		for _, others := range [][]impl.Fix{nil, {fix(0, 0, 10, 7)}, {fix(1, 2, 15, 7)}, {fix(0, 1, 11, 7)}, fixesShort(t, g, fixes), fixes} {
			wantNotBoth(t, name, g, fixes, others)
			wantNotBoth(t, name+" as the second list", g, others, fixes)
		}
	}
}
