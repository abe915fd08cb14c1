package tests

import (
	"slices"
	"strings"
	"testing"

	"loop.example/reliefmaps/impl"
)

// Promise 78: steps written out; "" where there is no sheet.
func TestSheetBesideByHand(t *testing.T) {
	for _, s := range []struct {
		name   string
		dx, dy int
		want   string
	}{
		{"A1", 0, 0, "A1"},
		{"C12", 0, 0, "C12"},
		{"Z26", 0, 0, "Z26"},
		{"C12", 1, 0, "C13"},
		{"C12", 0, 1, "D12"},
		{"C12", -1, 0, "C11"},
		{"C12", 0, -1, "B12"},
		{"C12", -2, 3, "F10"},
		{"C12", -3, -2, "A9"},
		{"C9", 1, 1, "D10"},
		{"A1", 25, 25, "Z26"},
		{"Z26", -25, -25, "A1"},
		{"A26", -25, 25, "Z1"},
		{"Z1", 25, -25, "A26"},
		{"A1", -1, 0, ""},
		{"A1", 0, -1, ""},
		{"A26", 1, 0, ""},
		{"A26", 0, -1, ""},
		{"Z1", -1, 0, ""},
		{"Z1", 0, 1, ""},
		{"Z26", 1, 0, ""},
		{"Z26", 0, 1, ""},
		{"A1", 26, 0, ""},
		{"A1", 0, 26, ""},
		{"B1", -1, 0, ""},
		{"A2", 0, -1, ""},
		{"Y26", 1, 0, ""},
		{"Z25", 0, 1, ""},
		{"M13", 14, 0, ""},
		{"M13", 13, 0, "M26"},
		{"M13", 0, 14, ""},
		{"M13", 0, 13, "Z13"},
	} {
		if got, ok := impl.SheetBeside(s.name, s.dx, s.dy); ok != (s.want != "") || got != s.want {
			t.Errorf("SheetBeside(%q, %d, %d) = %q, %v; want %q", s.name, s.dx, s.dy, got, ok, s.want)
		}
	}
}

// checkBeside compares a step from a sheet with the names of the series.
func checkBeside(t *testing.T, names *seriesNames, row, col, dx, dy int) {
	t.Helper()
	name := names.sheets[row][col]
	got, ok := impl.SheetBeside(name, dx, dy)
	if row+dy < 0 || row+dy > 25 || col+dx < 0 || col+dx > 25 {
		wantNoName(t, "SheetBeside of "+name+" past a border", got, ok)
		return
	}
	if want := names.sheets[row+dy][col+dx]; !ok || got != want {
		t.Fatalf("SheetBeside(%q, %d, %d) = %q, %v; want %q, true", name, dx, dy, got, ok, want)
	}
	if back, ok := impl.SheetBeside(got, -dx, -dy); !ok || back != name {
		t.Fatalf("SheetBeside(%q, %d, %d) = %q, %v; want %q, true", got, -dx, -dy, back, ok, name)
	}
	x, y := sheetFrom(t, name)
	if left, top := sheetFrom(t, got); left != x+4*dx || top != y+4*dy {
		t.Fatalf("SheetFrom(%q) = %d, %d, SheetFrom(%q) = %d, %d", name, x, y, got, left, top)
	}
}

// Promise 78: all sheets, with all steps that stay in the series and some past each border.
func TestSheetBeside(t *testing.T) {
	names := namesOfSeries()
	for row := range 26 {
		for col := range 26 {
			for dx := -27; dx <= 27; dx++ {
				for dy := -27; dy <= 27; dy++ {
					checkBeside(t, names, row, col, dx, dy)
				}
			}
		}
	}
}

// Promise 78: steps past all borders, and texts that are no sheet.
func TestSheetBesideRefuses(t *testing.T) {
	for name := range namesOfSeries().sheetsAt {
		for _, far := range oddSteps() {
			for _, step := range []int{0, 1, -1, far} {
				got, ok := impl.SheetBeside(name, far, step)
				wantNoName(t, "SheetBeside of "+name+" far to the side", got, ok)
				got, ok = impl.SheetBeside(name, step, far)
				wantNoName(t, "SheetBeside of "+name+" far up or down", got, ok)
			}
		}
	}
	texts := noSheets()
	for _, part := range strings.Fields(sheetParts) {
		texts = append(texts, "C12"+part)
	}
	for _, text := range texts {
		for _, step := range append(oddSteps(), -2, -1, 0, 1, 2) {
			got, ok := impl.SheetBeside(text, step, 0)
			wantNoName(t, "SheetBeside of "+short(text)+" to the side", got, ok)
			got, ok = impl.SheetBeside(text, 0, step)
			wantNoName(t, "SheetBeside of "+short(text)+" up or down", got, ok)
		}
	}
}

// Promise 79: rectangles written out; "" where there are too many sheets.
func TestSheetsBetweenByHand(t *testing.T) {
	for _, s := range []struct {
		ax, ay, bx, by int
		want           string
	}{
		{0, 0, 0, 0, "A1"},
		{103, 103, 103, 103, "Z26"},
		{103, 0, 103, 0, "A26"},
		{0, 103, 0, 103, "Z1"},
		{47, 10, 47, 10, "C12"},
		{0, 0, 3, 3, "A1"},
		{1, 2, 2, 1, "A1"},
		{3, 3, 4, 3, "A1 A2"},
		{3, 3, 3, 4, "A1 B1"},
		{3, 3, 4, 4, "A1 A2 B1 B2"},
		{4, 4, 3, 3, "A1 A2 B1 B2"},
		{3, 4, 4, 3, "A1 A2 B1 B2"},
		{4, 3, 3, 4, "A1 A2 B1 B2"},
		{99, 99, 100, 100, "Y25 Y26 Z25 Z26"},
		{96, 103, 103, 103, "Z25 Z26"},
		{103, 96, 103, 103, "Y26 Z26"},
		{35, 0, 44, 0, "A9 A10 A11 A12"},
		{44, 7, 35, 4, "B9 B10 B11 B12"},
		{4, 100, 4, 87, "V2 W2 X2 Y2 Z2"},
		{0, 0, 79, 0, "A1 A2 A3 A4 A5 A6 A7 A8 A9 A10 A11 A12 A13 A14 A15 A16 A17 A18 A19 A20"},
		{103, 102, 24, 102, "Z7 Z8 Z9 Z10 Z11 Z12 Z13 Z14 Z15 Z16 Z17 Z18 Z19 Z20 Z21 Z22 Z23 Z24 Z25 Z26"},
		{0, 0, 0, 79, "A1 B1 C1 D1 E1 F1 G1 H1 I1 J1 K1 L1 M1 N1 O1 P1 Q1 R1 S1 T1"},
		{103, 103, 88, 84, "V23 V24 V25 V26 W23 W24 W25 W26 X23 X24 X25 X26 Y23 Y24 Y25 Y26 Z23 Z24 Z25 Z26"},
		{103, 103, 84, 88, "W22 W23 W24 W25 W26 X22 X23 X24 X25 X26 Y22 Y23 Y24 Y25 Y26 Z22 Z23 Z24 Z25 Z26"},
		{0, 0, 80, 0, ""},
		{103, 103, 23, 103, ""},
		{0, 0, 0, 80, ""},
		{103, 103, 103, 23, ""},
		{0, 0, 27, 11, ""},
		{11, 27, 0, 0, ""},
		{0, 0, 103, 0, ""},
		{0, 103, 0, 0, ""},
		{0, 0, 103, 103, ""},
	} {
		want := strings.Fields(s.want)
		got, ok := impl.SheetsBetween(s.ax, s.ay, s.bx, s.by)
		if ok != (len(want) > 0) || !slices.Equal(got, want) {
			t.Errorf("SheetsBetween(%d, %d, %d, %d) = %v, %v; want %v", s.ax, s.ay, s.bx, s.by, got, ok, want)
		}
	}
}

// linesOf has the rows or the columns of sheets in which there is a coordinate between two.
func linesOf(a, b int) []int {
	var lines []int
	for line := range 26 {
		for n := 4 * line; n < 4*line+4; n++ {
			if (a <= n && n <= b || b <= n && n <= a) && !slices.Contains(lines, line) {
				lines = append(lines, line)
			}
		}
	}
	return lines
}

func (s *seriesNames) between(ax, ay, bx, by int) []string {
	var sheets []string
	for _, row := range linesOf(ay, by) {
		for _, col := range linesOf(ax, bx) {
			sheets = append(sheets, s.sheets[row][col])
		}
	}
	return sheets
}

// checkBetween takes the rectangle between two places by each pair of opposite corners.
func checkBetween(t *testing.T, names *seriesNames, ax, ay, bx, by int) {
	t.Helper()
	want := names.between(ax, ay, bx, by)
	for _, c := range [][4]int{{ax, ay, bx, by}, {bx, by, ax, ay}, {ax, by, bx, ay}, {bx, ay, ax, by}} {
		got, ok := impl.SheetsBetween(c[0], c[1], c[2], c[3])
		if len(want) > 20 {
			if ok || len(got) != 0 {
				t.Fatalf("SheetsBetween%v returned %d sheets, %v; there are %d", c, len(got), ok, len(want))
			}
		} else if !ok || !slices.Equal(got, want) {
			t.Fatalf("SheetsBetween%v = %v, %v; want %v, true", c, got, ok, want)
		}
	}
}

// Promise 79.
func TestSheetsBetween(t *testing.T) {
	names := namesOfSeries()
	for _, ax := range someCoordinates() {
		for _, ay := range someCoordinates() {
			for _, bx := range someCoordinates() {
				for _, by := range someCoordinates() {
					checkBetween(t, names, ax, ay, bx, by)
				}
			}
		}
	}
}

// Promise 79: as many rows and columns of sheets as can be, at each of the corners of the series.
func TestSheetsBetweenOfEachSize(t *testing.T) {
	names := namesOfSeries()
	for rows := 1; rows <= 26; rows++ {
		for cols := 1; cols <= 26; cols++ {
			width, height := 4*cols-1, 4*rows-1
			checkBetween(t, names, 0, 0, width, height)
			checkBetween(t, names, 103-width, 103-height, 103, 103)
			checkBetween(t, names, 103-width, height, 103, 0)
			// As many sheets, but from the middle of the first one to that of the last one.
			checkBetween(t, names, 2, 101, width-1, 104-height)
		}
	}
}

// Promise 79: both sheets are there, none twice, and each next one in a row is beside.
func TestSheetsBetweenPromise(t *testing.T) {
	for ax, ay := range eachPlace() {
		bx, by := min(103, ax+(7*ax+ay)%20), min(103, ay+(3*ay+ax)%12)
		got, ok := impl.SheetsBetween(ax, ay, bx, by)
		if !ok {
			continue
		}
		if got[0] != sheetOf(t, ax, ay) || got[len(got)-1] != sheetOf(t, bx, by) {
			t.Fatalf("SheetsBetween(%d, %d, %d, %d) = %v", ax, ay, bx, by, got)
		}
		for i := 1; i < len(got); i++ {
			if slices.Contains(got[:i], got[i]) {
				t.Fatalf("SheetsBetween(%d, %d, %d, %d) = %v, with %q twice", ax, ay, bx, by, got, got[i])
			}
			if beside, ok := impl.SheetBeside(got[i-1], 1, 0); got[i][0] == got[i-1][0] && (!ok || beside != got[i]) {
				t.Fatalf("SheetsBetween(%d, %d, %d, %d) = %v, but %q is beside %q", ax, ay, bx, by, got, beside, got[i-1])
			}
		}
	}
}

// Promises 79 and 80: coordinates that are none, in each place.
func TestBetweenAndFarRefuse(t *testing.T) {
	for _, no := range noCoordinates() {
		for _, n := range someCoordinates() {
			for place := range 4 {
				c := [4]int{n, n, n, n}
				c[place] = no
				got, ok := impl.SheetsBetween(c[0], c[1], c[2], c[3])
				if ok || len(got) != 0 {
					t.Errorf("SheetsBetween%v = %v, %v", c, got, ok)
				}
				if far := impl.PlaceFar(c[0], c[1], c[2], c[3]); far != -1 {
					t.Errorf("PlaceFar%v = %d", c, far)
				}
			}
		}
		if got, ok := impl.SheetsBetween(no, no, no, no); ok || len(got) != 0 {
			t.Errorf("SheetsBetween of %d four times = %v, %v", no, got, ok)
		}
		if far := impl.PlaceFar(no, no, no, no); far != -1 {
			t.Errorf("PlaceFar of %d four times = %d", no, far)
		}
	}
}
