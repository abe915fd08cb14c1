package tests

import (
	"math"
	"slices"
	"strconv"
	"testing"

	"loop.example/reliefmaps/impl"
)

func fix(r, c, old, height int) impl.Fix {
	return impl.Fix{Row: r, Col: c, Old: old, New: height}
}

// corrected is a grid with corrections of it.
type corrected struct {
	g     [][]int
	fixes []impl.Fix
}

// pen writes corrections that can be done, whatever the heights are.
type pen struct {
	now   [][]int
	fixes []impl.Fix
}

func penOn(g [][]int) *pen {
	return &pen{now: cloneGrid(g)}
}

// write writes nothing if the cell has the height, or the list is full.
func (p *pen) write(i, height int) {
	r, c := i/len(p.now[0]), i%len(p.now[0])
	if p.now[r][c] == height || len(p.fixes) == 60 {
		return
	}
	p.fixes = append(p.fixes, fix(r, c, p.now[r][c], height))
	p.now[r][c] = height
}

// walk has corrections of a few cells, from the last one on, in mixed order; another seed makes others.
func walk(g [][]int, many, few, seed int) []impl.Fix {
	p := penOn(g)
	cells := len(heightsOf(g))
	dice := steps(1, 2*many, 9900, seed)[0]
	for n := range many {
		i := cells - 1 - dice[2*n]%min(few, cells)
		// A step of at most 99 leads to another height.
		p.write(i, (heightsOf(p.now)[i]+1+dice[2*n+1]%99)%100)
	}
	return p.fixes
}

// twice has each cell corrected from the first one on, and then again from the last one on, by a rule each.
func twice(g [][]int, first, second func(h int) int) []impl.Fix {
	p := penOn(g)
	h := heightsOf(g)
	for i := range h {
		p.write(i, first(h[i]))
	}
	for i := range slices.Backward(h) {
		p.write(i, second(h[i]))
	}
	return p.fixes
}

// atOnce has each cell corrected twice, once behind the other.
func atOnce(g [][]int, first, second func(h int) int) []impl.Fix {
	p := penOn(g)
	for i, h := range heightsOf(g) {
		p.write(i, first(h))
		p.write(i, second(h))
	}
	return p.fixes
}

// These are rules for another height; of some heights mostFor makes none.

func nextFor(h int) int  { return (h + 1) % 100 }
func otherFor(h int) int { return 99 - h }
func mostFor(int) int    { return 99 }
func leastFor(int) int   { return 0 }
func sameFor(h int) int  { return h }

// fixLists has lists of corrections of a grid: none, one, cells twice, there and back, and as many as can be.
func fixLists(g [][]int) [][]impl.Fix {
	all := [][]impl.Fix{
		nil,
		{},
		twice(g, nextFor, sameFor),
		twice(g, nextFor, otherFor),
		twice(g, leastFor, mostFor),
		twice(g, mostFor, leastFor),
		atOnce(g, otherFor, sameFor),
		atOnce(g, mostFor, nextFor),
	}
	for n, many := range []int{1, 2, 3, 7, 20, 59, 60, 60} {
		all = append(all, walk(g, many, 1+13*n%50, 31*n+len(g)))
	}
	return append(all, walk(g, 60, 1, 5), walk(g, 60, 2, 6), walk(g, 8, 3, 7))
}

// editionGrids has grids of each size, and such with the least and the greatest height only.
func editionGrids() [][][]int {
	all := mixedGrids()
	for _, size := range [][2]int{{1, 1}, {1, 2}, {2, 1}, {1, 7}, {7, 1}, {2, 3}, {3, 2}, {7, 7}} {
		all = append(all,
			fill(size[0], size[1], leastFor),
			fill(size[0], size[1], mostFor),
			fill(size[0], size[1], func(i int) int { return 99 * (i % 2) }))
	}
	return all
}

func sampleEditions() []corrected {
	var all []corrected
	for _, g := range editionGrids() {
		for _, fixes := range fixLists(g) {
			all = append(all, corrected{g, fixes})
		}
		for _, fixes := range shortLists(g) {
			all = append(all, corrected{g, fixes})
		}
	}
	return all
}

// shortLists has short corrections of a grid: of no cell, one, some and all, by several rules.
func shortLists(g [][]int) [][]impl.Fix {
	cells, cols := len(heightsOf(g)), len(g[0])
	var all [][]impl.Fix
	for _, isPicked := range []func(i int) bool{
		func(int) bool { return false },
		func(int) bool { return true },
		func(i int) bool { return i == 0 },
		func(i int) bool { return i == cells-1 },
		func(i int) bool { return i%2 == 0 },
		func(i int) bool { return i%3 == 1 },
		func(i int) bool { return i >= cells-cols },
		func(i int) bool { return i%cols == cols-1 },
	} {
		for _, rule := range []func(h int) int{nextFor, otherFor, mostFor} {
			p := penOn(g)
			for i, h := range heightsOf(g) {
				if isPicked(i) {
					p.write(i, rule(h))
				}
			}
			all = append(all, p.fixes)
		}
	}
	return all
}

// The following functions follow the document word for word; those with corrections are for such as are valid.

// doneOf returns the edition, unless a correction cannot be done or there are too many.
func doneOf(g [][]int, fixes []impl.Fix) ([][]int, bool) {
	x := cloneGrid(g)
	for _, s := range fixes {
		done := false
		for r := range x {
			for c := range x[r] {
				if r == s.Row && c == s.Col && x[r][c] == s.Old && isOther(s) {
					x[r][c], done = s.New, true
				}
			}
		}
		if !done {
			return nil, false
		}
	}
	return x, len(fixes) <= 60
}

// isOther reports whether New is another height than Old.
func isOther(s impl.Fix) bool {
	return s.New >= 0 && s.New <= 99 && s.New != s.Old
}

// madeOf compares cell by cell.
func madeOf(a, b [][]int) []impl.Fix {
	var fixes []impl.Fix
	for r := range a {
		for c := range a[r] {
			if a[r][c] != b[r][c] {
				fixes = append(fixes, fix(r, c, a[r][c], b[r][c]))
			}
		}
	}
	return fixes
}

func backOf(fixes []impl.Fix) []impl.Fix {
	var back []impl.Fix
	for n := len(fixes) - 1; n >= 0; n-- {
		back = append(back, fix(fixes[n].Row, fixes[n].Col, fixes[n].New, fixes[n].Old))
	}
	return back
}

func sameCell(a, b impl.Fix) bool {
	return a.Row == b.Row && a.Col == b.Col
}

// isShortOf compares all pairs of corrections.
func isShortOf(fixes []impl.Fix) bool {
	for n, last := range fixes {
		for _, first := range fixes[:n] {
			if sameCell(first, last) || first.Row > last.Row || first.Row == last.Row && first.Col > last.Col {
				return false
			}
		}
	}
	return true
}

func clashOf(a, b []impl.Fix) bool {
	for _, x := range a {
		for _, y := range b {
			if sameCell(x, y) && x != y {
				return true
			}
		}
	}
	return false
}

// bothOf takes what both lists have at each cell of the greatest grid.
func bothOf(a, b []impl.Fix) []impl.Fix {
	var both []impl.Fix
	for i := range 49 {
		for _, s := range slices.Concat(a, b) {
			if s.Row == i/7 && s.Col == i%7 && !slices.Contains(both, s) {
				both = append(both, s)
			}
		}
	}
	return both
}

func fixedCellsOf(g [][]int, fixes []impl.Fix) []int {
	var cells []int
	for i := range heightsOf(g) {
		if len(fixedAtOf(g, fixes, i/len(g[0]), i%len(g[0]))) > 1 {
			cells = append(cells, i)
		}
	}
	return cells
}

func fixedAtOf(g [][]int, fixes []impl.Fix, r, c int) []int {
	heights := []int{g[r][c]}
	for _, s := range fixes {
		if s.Row == r && s.Col == c {
			heights = append(heights, s.New)
		}
	}
	return heights
}

func riseOf(fixes []impl.Fix) int {
	rise := 0
	for _, s := range fixes {
		rise += s.New - s.Old
	}
	return rise
}

// farOf counts the cells at which two grids of one size differ.
func farOf(a, b [][]int) int {
	return len(madeOf(a, b))
}

func heightSum(g [][]int) int {
	sum := 0
	for _, h := range heightsOf(g) {
		sum += h
	}
	return sum
}

// noHeights has numbers that are no height.
func noHeights() []int {
	return []int{math.MinInt, math.MinInt + 1, -1 << 32, -256, -100, -99, -2, -1, 100, 101, 156, 255, 256, 1 << 32, 1<<32 + 7, math.MaxInt - 1, math.MaxInt}
}

// badFixes has lists that are no corrections of the grid 10 11 12/13 14 15.
func badFixes() map[string][]impl.Fix {
	sixty := alternating(60)
	bad := map[string][]impl.Fix{
		"nothing but zeros":                  {{}},
		"zeros behind a correction":          {fix(0, 0, 10, 9), {}},
		"zeros ahead of a correction":        {{}, fix(0, 0, 10, 9)},
		"old and new are the same":           {fix(0, 0, 10, 10)},
		"the same again behind a correction": {fix(0, 0, 10, 9), fix(0, 0, 9, 9)},
		"the height of another cell":         {fix(0, 0, 11, 9)},
		"the height of the other coordinate": {fix(0, 1, 13, 9)},
		"one less than the height":           {fix(1, 2, 14, 9)},
		"one more than the height":           {fix(1, 2, 16, 9)},
		"the height before the first":        {fix(0, 0, 10, 9), fix(0, 0, 10, 8)},
		"equal ones":                         {fix(0, 0, 10, 9), fix(0, 0, 10, 9)},
		"the height behind the last":         {fix(0, 0, 9, 8), fix(0, 0, 10, 9)},
		"the old height of a cell between":   {fix(0, 0, 10, 9), fix(1, 1, 14, 10), fix(0, 0, 10, 9)},
		"the edition of another cell":        {fix(0, 0, 10, 9), fix(0, 1, 9, 8)},
		"there and back and again from back": {fix(0, 0, 10, 9), fix(0, 0, 9, 10), fix(0, 0, 9, 8)},
		"a row past the end":                 {fix(2, 0, 10, 9)},
		"a row past the end, height 0":       {fix(2, 0, 0, 9)},
		"a column past the end":              {fix(1, 3, 15, 9)},
		"the next row by its index":          {fix(0, 3, 13, 9)},
		"the last cell by its index":         {fix(0, 5, 15, 9)},
		"the row ahead by its index":         {fix(1, -1, 12, 9)},
		"the row behind by its index":        {fix(-1, 3, 10, 9)},
		"exchanged coordinates":              {fix(2, 1, 15, 9)},
		"a hundred thousand":                 slices.Repeat(alternating(2), 50000),
		"a hundred thousand of nothing":      make([]impl.Fix, 100000),
		"61, the last one no correction":     append(slices.Clone(sixty), fix(0, 0, 10, 10)),
		"61 of one cell":                     alternating(61),
		"61 of all cells":                    walk6(61),
		"62 of all cells":                    walk6(62),
		"60, the last one no correction":     append(slices.Clone(sixty[:59]), fix(0, 0, 10, 8)),
		"60, the first one no correction":    slices.Insert(slices.Clone(sixty[1:]), 0, fix(0, 0, 9, 10)),
	}
	for _, n := range noHeights() {
		name := strconv.Itoa(n)
		bad["New = "+name] = []impl.Fix{fix(0, 0, 10, n)}
		bad["New of the last one = "+name] = []impl.Fix{fix(0, 0, 10, 9), fix(1, 2, 15, n)}
		bad["New and then Old = "+name] = []impl.Fix{fix(1, 2, 15, n), fix(1, 2, n, 9)}
		bad["Old = "+name] = []impl.Fix{fix(0, 0, n, 9)}
		bad["Row = "+name] = []impl.Fix{fix(n, 0, 10, 9)}
		bad["Col = "+name] = []impl.Fix{fix(0, n, 10, 9)}
		bad["Row and Col = "+name] = []impl.Fix{fix(n, n, 10, 9)}
		bad["each field = "+name] = []impl.Fix{fix(n, n, n, n)}
		bad["Row of the last one = "+name] = []impl.Fix{fix(0, 0, 10, 9), fix(n, 0, 9, 10)}
		bad["Col of the last one = "+name] = []impl.Fix{fix(0, 0, 10, 9), fix(0, n, 9, 10)}
	}
	return bad
}

// sixCells is the grid that badFixes and notShort are about.
func sixCells() [][]int {
	return [][]int{{10, 11, 12}, {13, 14, 15}}
}

// alternating has corrections of the first of the six cells, there and back.
func alternating(many int) []impl.Fix {
	var fixes []impl.Fix
	for n := range many {
		fixes = append(fixes, fix(0, 0, 10-n%2, 9+n%2))
	}
	return fixes
}

// walk6 has corrections of all of the six cells in turn, each by 1 more.
func walk6(many int) []impl.Fix {
	var fixes []impl.Fix
	for n := range many {
		old := 10 + n%6 + n/6
		fixes = append(fixes, fix(n%6/3, n%3, old, old+1))
	}
	return fixes
}

// notShort has corrections of the six cells that are not short.
func notShort() map[string][]impl.Fix {
	return map[string][]impl.Fix{
		"a cell twice":                       {fix(0, 0, 10, 9), fix(0, 0, 9, 8)},
		"a cell there and back":              {fix(0, 0, 10, 9), fix(0, 0, 9, 10)},
		"the last cell twice":                {fix(1, 2, 15, 9), fix(1, 2, 9, 8)},
		"a cell twice, with one between":     {fix(0, 0, 10, 9), fix(1, 1, 14, 9), fix(0, 0, 9, 8)},
		"a cell twice behind others":         {fix(0, 0, 10, 9), fix(1, 1, 14, 9), fix(1, 1, 9, 8)},
		"a cell twice ahead of others":       {fix(0, 0, 10, 9), fix(0, 0, 9, 8), fix(1, 1, 14, 9)},
		"rows in the opposite order":         {fix(1, 0, 13, 9), fix(0, 0, 10, 9)},
		"columns in the opposite order":      {fix(0, 1, 11, 9), fix(0, 0, 10, 9)},
		"sorted by column, then row":         {fix(1, 0, 13, 9), fix(0, 1, 11, 9)},
		"the last two in the opposite order": {fix(0, 0, 10, 9), fix(1, 2, 15, 9), fix(1, 1, 14, 9)},
		"the first two in this order":        {fix(0, 2, 12, 9), fix(0, 1, 11, 9), fix(1, 1, 14, 9)},
		"the first one last":                 {fix(0, 1, 11, 9), fix(1, 1, 14, 9), fix(0, 0, 10, 9)},
		"sixty of one cell":                  alternating(60),
		"sixty of all cells":                 walk6(60),
		"seven":                              walk6(7),
	}
}

// These are for corrections and grids with which the functions succeed.

func edition(t *testing.T, g [][]int, fixes []impl.Fix) [][]int {
	t.Helper()
	x, ok := impl.FixesDo(g, fixes)
	if !ok {
		t.Fatalf("FixesDo of %v and %v failed", g, fixes)
	}
	return x
}

func fixesBack(t *testing.T, g [][]int, fixes []impl.Fix) []impl.Fix {
	t.Helper()
	x, ok := impl.FixesBack(g, fixes)
	return fixesFound(t, "FixesBack", x, ok)
}

func fixesShort(t *testing.T, g [][]int, fixes []impl.Fix) []impl.Fix {
	t.Helper()
	x, ok := impl.FixesShort(g, fixes)
	return fixesFound(t, "FixesShort", x, ok)
}

func fixesMake(t *testing.T, a, b [][]int) []impl.Fix {
	t.Helper()
	x, ok := impl.FixesMake(a, b)
	return fixesFound(t, "FixesMake", x, ok)
}

func fixesFound(t *testing.T, call string, fixes []impl.Fix, ok bool) []impl.Fix {
	t.Helper()
	if !ok {
		t.Fatalf("%s failed", call)
	}
	return fixes
}

func fixesAt(t *testing.T, g [][]int, fixes []impl.Fix, r, c int) []int {
	t.Helper()
	x, ok := impl.FixesAt(g, fixes, r, c)
	if !ok {
		t.Fatalf("FixesAt of %v and %v at %d, %d failed", g, fixes, r, c)
	}
	return x
}

func rise(t *testing.T, g [][]int, fixes []impl.Fix) int {
	t.Helper()
	x, ok := impl.FixesRise(g, fixes)
	if !ok {
		t.Fatalf("FixesRise of %v and %v failed", g, fixes)
	}
	return x
}

// wantNoFixes fails unless a call failed, with the zero value.
func wantNoFixes(t *testing.T, call string, got []impl.Fix, ok bool) {
	t.Helper()
	if ok || len(got) != 0 {
		t.Errorf("%s returned %v, %v; want none, false", call, got, ok)
	}
}

// someSplits has places at which a list of corrections is split: all of a short list, and some of a long one.
func someSplits(fixes []impl.Fix) []int {
	if len(fixes) <= 8 {
		return allPoints(len(fixes) + 1)
	}
	return []int{0, 1, 2, len(fixes) / 2, len(fixes) - 2, len(fixes) - 1, len(fixes)}
}
