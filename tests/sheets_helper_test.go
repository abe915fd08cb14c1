package tests

import (
	"iter"
	"math"
	"slices"
	"strconv"
	"strings"
	"testing"

	"loop.example/reliefmaps/impl"
)

const (
	sheetRows    = "A B C D E F G H I J K L M N O P Q R S T U V W X Y Z"
	sheetNumbers = "1 2 3 4 5 6 7 8 9 10 11 12 13 14 15 16 17 18 19 20 21 22 23 24 25 26"
	sheetParts   = "aa ab ba bb ac ad bc bd ca cb da db cc cd dc dd"
)

// mapPlace is a place of the series, or the one in the north-west of a sheet.
type mapPlace struct{ x, y int }

// seriesNames has what the document names: all sheets, row by row, and all places, both ways.
type seriesNames struct {
	sheets   [26][26]string
	places   [104][104]string
	sheetsAt map[string]mapPlace
	placesAt map[string]mapPlace
}

func namesOfSeries() *seriesNames {
	s := &seriesNames{sheetsAt: map[string]mapPlace{}, placesAt: map[string]mapPlace{}}
	for row, letter := range strings.Fields(sheetRows) {
		for col, number := range strings.Fields(sheetNumbers) {
			s.sheets[row][col] = letter + number
			s.sheetsAt[letter+number] = mapPlace{4 * col, 4 * row}
			for i, part := range strings.Fields(sheetParts) {
				p := mapPlace{4*col + i%4, 4*row + i/4}
				s.places[p.y][p.x] = letter + number + part
				s.placesAt[letter+number+part] = p
			}
		}
	}
	return s
}

// sheetAt goes through the places of each sheet of a row and of a column.
func (s *seriesNames) sheetAt(x, y int) string {
	for row := range 26 {
		for col := range 26 {
			if 4*col <= x && x < 4*col+4 && 4*row <= y && y < 4*row+4 {
				return s.sheets[row][col]
			}
		}
	}
	return ""
}

// eachPlace has all places of the series, row by row.
func eachPlace() iter.Seq2[int, int] {
	return func(yield func(x, y int) bool) {
		for y := range 104 {
			for x := range 104 {
				if !yield(x, y) {
					return
				}
			}
		}
	}
}

// someCoordinates has both ends of the series, and both sides of borders of sheets.
func someCoordinates() []int {
	return []int{0, 1, 3, 4, 19, 20, 35, 36, 52, 79, 80, 83, 84, 99, 100, 103}
}

// noCoordinates has numbers that are no coordinate.
func noCoordinates() []int {
	return []int{math.MinInt, math.MinInt + 1, -1 << 32, -104, -103, -5, -4, -3, -2, -1, 104, 105, 107, 108, 208, 256, 415, 416, 1 << 32, 1<<32 + 5, math.MaxInt - 1, math.MaxInt}
}

// oddSteps has steps that lead out of the series from each sheet.
func oddSteps() []int {
	return []int{math.MinInt, math.MinInt + 1, math.MinInt + 25, -1 << 62, -1 << 32, -1<<32 + 1, -256, -104, -27, -26, 26, 27, 104, 256, 1 << 32, 1<<32 + 1, 1 << 62, math.MaxInt - 25, math.MaxInt - 1, math.MaxInt}
}

// noSheets has texts that are no name of a sheet; those of places are not among them.
func noSheets() []string {
	return []string{
		"", " ", "A", "Z", "1", "26", "12", "C 12", " C12", "C12 ", "C12\n", "C12\x00", "\x00C12", "C", "CC12", "C1C", "12C", "1C", "C12C",
		"a1", "c12", "z26", "@1", "[1", "A0", "A00", "A01", "A012", "A001", "Z27", "A27", "A28", "A30", "A99", "A100", "A126", "A260", "A261",
		"A257", "A4294967297", "A18446744073709551617", "A18446744073709551628", "A-1", "A+1", "A--1", "A 1", "A1 ", "A1.", "A1.0", "A1e0", "A0x1", "A1_0", "A_1", "A+12",
		"A-12", "A:", "A/", "A1:", "A1/", "A:1", "A/1", "AA", "AA1", "A1A", "A\x001", "A1\x00", "A\xff", "\xff1", "\xc11", "\x811", "\u00c41", "\u04101", "A\uff11", "A\u00b2", "A1\xb2",
		strings.Repeat("A", 100000), "A" + strings.Repeat("1", 100000), "A" + strings.Repeat("0", 100000) + "1", "A1" + strings.Repeat(" ", 100000),
	}
}

// noLetters has texts that do not name a place of a sheet if they are put behind its name.
func noLetters() []string {
	return []string{
		"", "a", "d", "aaa", "aaaa", "ddd", "A", "AA", "aA", "Aa", "DD", "dD", "Dd", "e", "ea", "ae", "ed", "de", "ee", "za", "az", "`a", "a`", "a ", " a",
		" aa", "aa ", "a a", "11", "1a", "a1", "0a", "a0", "a\x00", "\x00a", "a\xe1", "\xe1a", "\u00e4a", "a\u00e4", "\u00e4", "\u0430", "a\n", "aa\n", "-a", "a-", strings.Repeat("a", 100000),
	}
}

// short is for messages about texts that may be long.
func short(text string) string {
	return strconv.Quote(text[:min(len(text), 30)])
}

// These are for names and places with which the functions succeed.

func sheetOf(t *testing.T, x, y int) string {
	t.Helper()
	name, ok := impl.SheetOf(x, y)
	if !ok {
		t.Fatalf("SheetOf(%d, %d) failed", x, y)
	}
	return name
}

func sheetFrom(t *testing.T, name string) (int, int) {
	t.Helper()
	x, y, ok := impl.SheetFrom(name)
	if !ok {
		t.Fatalf("SheetFrom(%q) failed", name)
	}
	return x, y
}

func placeName(t *testing.T, x, y int) string {
	t.Helper()
	name, ok := impl.PlaceName(x, y)
	if !ok {
		t.Fatalf("PlaceName(%d, %d) failed", x, y)
	}
	return name
}

func mended(t *testing.T, a, b [][]int) ([][]int, [][]int) {
	t.Helper()
	x, y, ok := impl.GridsMend(a, b)
	if !ok {
		t.Fatalf("GridsMend(%v, %v) failed", a, b)
	}
	return x, y
}

// wantNoName and wantNoSpot fail unless a call failed, with zero values.

func wantNoName(t *testing.T, call string, got string, ok bool) {
	t.Helper()
	if ok || got != "" {
		t.Errorf("%s returned %q, %v; want none, false", call, got, ok)
	}
}

func wantNoSpot(t *testing.T, call string, x, y int, ok bool) {
	t.Helper()
	if ok || x != 0 || y != 0 {
		t.Errorf("%s returned %d, %d, %v; want 0, 0, false", call, x, y, ok)
	}
}

// seamOf returns the last column of the first grid and the first column of the second one.
func seamOf(a, b [][]int) ([]int, []int) {
	return columnOf(a, len(a[0])-1), columnOf(b, 0)
}

// fitted returns the second grid with the last column of the first one for its first column.
func fitted(a, b [][]int) [][]int {
	x := cloneGrid(b)
	west, _ := seamOf(a, b)
	for r, h := range west {
		x[r][0] = h
	}
	return x
}

// edgeGrids has grids of each size, with few heights, so that they agree at some rows, and with all heights 0 and 99.
func edgeGrids() [][][]int {
	all := mixedGrids()
	for rows := 1; rows <= 7; rows++ {
		for cols := 1; cols <= 7; cols++ {
			all = append(all,
				fill(rows, cols, func(i int) int { return 48 + i%3 }),
				fill(rows, cols, func(int) int { return 0 }),
				fill(rows, cols, func(int) int { return 99 }))
		}
	}
	return all
}

// gridPairs has pairs of grids of as many rows, of each width; some agree, and some differ at one row only.
func gridPairs() iter.Seq2[[][]int, [][]int] {
	return func(yield func(a, b [][]int) bool) {
		all := edgeGrids()
		for _, a := range all {
			for _, b := range all {
				if len(a) != len(b) {
					continue
				}
				if !yield(a, b) || !yield(a, fitted(a, b)) || !yield(a, almost(a, b)) {
					return
				}
			}
		}
	}
}

// almost returns the second grid fitted to the first one, but for a height that differs by 1.
func almost(a, b [][]int) [][]int {
	x := fitted(a, b)
	r := (len(a[0]) + len(b[0])) % len(x)
	if x[r][0] == 99 {
		x[r][0]--
	} else {
		x[r][0]++
	}
	return x
}

// gapOf counts single steps from height to height.
func gapOf(a, b [][]int) int {
	gap := 0
	west, east := seamOf(a, b)
	for r := range west {
		for h := min(west[r], east[r]); h < max(west[r], east[r]); h++ {
			gap++
		}
	}
	return gap
}

// moved returns the sum of the differences of all heights of two grids of one size.
func moved(a, b [][]int) int {
	sum := 0
	for r := range a {
		for c := range a[r] {
			sum += max(a[r][c]-b[r][c], b[r][c]-a[r][c])
		}
	}
	return sum
}

// agreesWith compares both columns.
func agreesWith(a, b [][]int) bool {
	west, east := seamOf(a, b)
	return slices.Equal(west, east)
}
