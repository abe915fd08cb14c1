package impl

import (
	"slices"
	"strings"
)

// SideMax is the greatest number of rows and of columns of a grid.
const SideMax = 7

// HeightMax is the greatest height.
const HeightMax = 99

// relief is a grid kept as one list of heights, so that the index of a cell is its place in the list.
type relief struct {
	rows    int
	cols    int
	heights []int
}

func newRelief(rows int, cols int, height func(r int, c int) int) relief {
	m := relief{rows: rows, cols: cols, heights: make([]int, 0, rows*cols)}
	for r := range rows {
		for c := range cols {
			m.heights = append(m.heights, height(r, c))
		}
	}
	return m
}

// reliefOf copies the heights, so that no change to a relief reaches an argument.
func reliefOf(g [][]int) (relief, bool) {
	if !shapeFits(g) {
		return relief{}, false
	}
	m := newRelief(len(g), len(g[0]), func(r int, c int) int { return g[r][c] })
	if !m.valid() {
		return relief{}, false
	}
	return m, true
}

// shapeFits is asked ahead of the copy, so that lists far beyond the limits are not copied.
func shapeFits(g [][]int) bool {
	if !sideFits(len(g)) || !sideFits(len(g[0])) {
		return false
	}
	for _, row := range g {
		if len(row) != len(g[0]) {
			return false
		}
	}
	return true
}

func sideFits(n int) bool {
	return 1 <= n && n <= SideMax
}

func isHeight(h int) bool {
	return 0 <= h && h <= HeightMax
}

func (m relief) valid() bool {
	if !sideFits(m.rows) || !sideFits(m.cols) {
		return false
	}
	for _, h := range m.heights {
		if !isHeight(h) {
			return false
		}
	}
	return true
}

func (m relief) has(r int, c int) bool {
	return 0 <= r && r < m.rows && 0 <= c && c < m.cols
}

func (m relief) index(r int, c int) int {
	return r*m.cols + c
}

func (m relief) at(r int, c int) int {
	return m.heights[m.index(r, c)]
}

func (m relief) turned() relief {
	return newRelief(m.cols, m.rows, func(r int, c int) int { return m.at(m.rows-1-c, r) })
}

func (m relief) mirrored() relief {
	return newRelief(m.rows, m.cols, func(r int, c int) int { return m.at(r, m.cols-1-c) })
}

func (m relief) raised(k int) relief {
	return newRelief(m.rows, m.cols, func(r int, c int) int { return m.at(r, c) + k })
}

func (m relief) inverted() relief {
	return newRelief(m.rows, m.cols, func(r int, c int) int { return HeightMax - m.at(r, c) })
}

func (m relief) part(top int, left int, rows int, cols int) relief {
	return newRelief(rows, cols, func(r int, c int) int { return m.at(top+r, left+c) })
}

func (m relief) beside(east relief) relief {
	return newRelief(m.rows, m.cols+east.cols, func(r int, c int) int {
		if c < m.cols {
			return m.at(r, c)
		}
		return east.at(r, c-m.cols)
	})
}

func (m relief) below(south relief) relief {
	return relief{
		rows:    m.rows + south.rows,
		cols:    m.cols,
		heights: slices.Concat(m.heights, south.heights),
	}
}

// lists gives each row memory of its own, since results share none.
func (m relief) lists() [][]int {
	g := make([][]int, m.rows)
	for r := range g {
		g[r] = make([]int, m.cols)
		copy(g[r], m.heights[m.index(r, 0):])
	}
	return g
}

// grid checks the limits, so that the steps to another relief need not.
func (m relief) grid() ([][]int, bool) {
	if !m.valid() {
		return nil, false
	}
	return m.lists(), true
}

func (m relief) text() string {
	var b strings.Builder
	for i, h := range m.heights {
		switch {
		case i == 0:
		case i%m.cols == 0:
			b.WriteByte('/')
		default:
			b.WriteByte(' ')
		}
		b.WriteByte(byte('0' + h/10))
		b.WriteByte(byte('0' + h%10))
	}
	return b.String()
}

// GridValid reports whether lists are a grid.
func GridValid(g [][]int) bool {
	_, ok := reliefOf(g)
	return ok
}

// GridAt returns the height of a cell, or -1 if the lists are no grid or there is no such cell.
func GridAt(g [][]int, r int, c int) int {
	m, ok := reliefOf(g)
	if !ok || !m.has(r, c) {
		return -1
	}
	return m.at(r, c)
}

// GridSet returns the grid with another height at a cell, and true.
func GridSet(g [][]int, r int, c int, height int) ([][]int, bool) {
	m, ok := reliefOf(g)
	if !ok || !m.has(r, c) {
		return nil, false
	}
	m.heights[m.index(r, c)] = height
	return m.grid()
}

// GridTurn returns the grid turned to the right by a right angle, and true.
func GridTurn(g [][]int) ([][]int, bool) {
	m, ok := reliefOf(g)
	if !ok {
		return nil, false
	}
	return m.turned().grid()
}

// GridMirror returns the grid with the columns in the opposite order, and true.
func GridMirror(g [][]int) ([][]int, bool) {
	m, ok := reliefOf(g)
	if !ok {
		return nil, false
	}
	return m.mirrored().grid()
}

// GridRaise returns the grid with all heights greater by k (less for a negative k), and true.
func GridRaise(g [][]int, k int) ([][]int, bool) {
	m, ok := reliefOf(g)
	// A greater step leads out of the heights, and a very large one would wrap around.
	if !ok || k < -HeightMax || k > HeightMax {
		return nil, false
	}
	return m.raised(k).grid()
}

// GridInvert returns the grid in which each height h is HeightMax - h, and true.
func GridInvert(g [][]int) ([][]int, bool) {
	m, ok := reliefOf(g)
	if !ok {
		return nil, false
	}
	return m.inverted().grid()
}

// GridPart returns the rows from top to bottom and the columns from left to right, all included, and true.
func GridPart(g [][]int, top int, bottom int, left int, right int) ([][]int, bool) {
	m, ok := reliefOf(g)
	if !ok || !m.has(top, left) || !m.has(bottom, right) || top > bottom || left > right {
		return nil, false
	}
	return m.part(top, left, bottom-top+1, right-left+1).grid()
}

// GridBeside returns the grid with the columns of two grids of as many rows, those of the first one to the west, and true.
func GridBeside(a [][]int, b [][]int) ([][]int, bool) {
	west, ok := reliefOf(a)
	east, fine := reliefOf(b)
	if !ok || !fine || west.rows != east.rows {
		return nil, false
	}
	return west.beside(east).grid()
}

// GridBelow returns the grid with the rows of two grids of as many columns, those of the first one to the north, and true.
func GridBelow(a [][]int, b [][]int) ([][]int, bool) {
	north, ok := reliefOf(a)
	south, fine := reliefOf(b)
	if !ok || !fine || north.cols != south.cols {
		return nil, false
	}
	return north.below(south).grid()
}

// GridRange returns the least and the greatest height, and true.
func GridRange(g [][]int) (int, int, bool) {
	m, ok := reliefOf(g)
	if !ok {
		return 0, 0, false
	}
	return slices.Min(m.heights), slices.Max(m.heights), true
}

// GridText returns the text of a grid, or "" if the lists are none.
func GridText(g [][]int) string {
	m, ok := reliefOf(g)
	if !ok {
		return ""
	}
	return m.text()
}

// GridFrom returns the grid with a text, and true.
func GridFrom(s string) ([][]int, bool) {
	var g [][]int
	// The splits stop one piece beyond the greatest grid, so that a long text costs no more than a short one.
	for _, line := range strings.SplitN(s, "/", SideMax+1) {
		row, ok := rowFrom(line)
		if !ok {
			return nil, false
		}
		g = append(g, row)
	}
	m, ok := reliefOf(g)
	if !ok {
		return nil, false
	}
	return m.lists(), true
}

func rowFrom(line string) ([]int, bool) {
	var row []int
	for _, word := range strings.SplitN(line, " ", SideMax+1) {
		h, ok := heightFrom(word)
		if !ok {
			return nil, false
		}
		row = append(row, h)
	}
	return row, true
}

func heightFrom(word string) (int, bool) {
	return digitsNumber(word, 2, 2)
}

// digitsNumber is for a number of digits only, at least and at most so many. Atoi would allow signs, and any length.
func digitsNumber(word string, least int, most int) (int, bool) {
	if len(word) < least || len(word) > most {
		return 0, false
	}
	number := 0
	for i := range len(word) {
		if !isDigit(word[i]) {
			return 0, false
		}
		number = 10*number + int(word[i]-'0')
	}
	return number, true
}

func isDigit(b byte) bool {
	return '0' <= b && b <= '9'
}
