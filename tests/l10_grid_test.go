package tests

import (
	"strconv"
	"strings"
	"testing"

	"loop.example/reliefmaps/impl"
)

// Promises 112 and 113: grids and what becomes of them, written out.
func TestExecuteGridByHand(t *testing.T) {
	for _, p := range []struct {
		name  string
		lines []string
		shown string
		last  string
	}{
		{"no line", nil, "00", sizes(1, 1, 0)},
		{"one cell", []string{"grid 07"}, "07", sizes(1, 1, 0)},
		{"several rows", []string{"grid 07 12/30 99/00 01"}, "07 12/30 99/00 01", sizes(3, 2, 0)},
		{"one row", []string{"grid 01 02 03 04 05 06 07"}, "01 02 03 04 05 06 07", sizes(1, 7, 0)},
		{"one column", []string{"grid 01/02/03/04/05/06/07"}, "01/02/03/04/05/06/07", sizes(7, 1, 0)},
		{"another grid", []string{"grid 07 12/30 99", "grid 05"}, "05", sizes(1, 1, 0)},
		{"turned", []string{"grid 07 12 30/99 00 05", "turn"}, "99 07/00 12/05 30", sizes(3, 2, 0)},
		{"turned twice", []string{"grid 07 12 30/99 00 05", "turn", "turn"}, "05 00 99/30 12 07", sizes(2, 3, 0)},
		{"turned four times", []string{"grid 07 12 30/99 00 05", "turn", "turn", "turn", "turn"}, "07 12 30/99 00 05", sizes(2, 3, 0)},
		{"mirrored", []string{"grid 07 12 30/99 00 05", "mirror"}, "30 12 07/05 00 99", sizes(2, 3, 0)},
		{"turned, then mirrored", []string{"grid 07 12 30/99 00 05", "turn", "mirror"}, "07 99/12 00/30 05", sizes(3, 2, 0)},
		{"mirrored, then turned", []string{"grid 07 12 30/99 00 05", "mirror", "turn"}, "05 30/00 12/99 07", sizes(3, 2, 0)},
		{"inverted", []string{"grid 07 12 30/99 00 05", "invert"}, "92 87 69/00 99 94", sizes(2, 3, 0)},
		{"filled", []string{"grid 09 09 09/09 03 08/09 09 09", "fill"}, "09 09 09/09 08 08/09 09 09", sizes(3, 3, 0)},
		{"filled, then inverted", []string{"grid 09 09 09/09 03 08/09 09 09", "fill", "invert"}, "90 90 90/90 91 91/90 90 90", sizes(3, 3, 0)},
		{"inverted, then filled", []string{"grid 09 09 09/09 12 08/09 09 09", "invert", "fill"}, "90 90 90/90 90 91/90 90 90", sizes(3, 3, 0)},
		{"one cell turned, mirrored and filled", []string{"turn", "mirror", "fill"}, "00", sizes(1, 1, 0)},
		{"one cell inverted", []string{"invert"}, "99", sizes(1, 1, 0)},
		{"one height", []string{"grid 07 12 30/99 00 05", "set 1 2 6"}, "07 12 30/99 00 06", sizes(2, 3, 0)},
		{"the height that is there", []string{"grid 07 12 30/99 00 05", "set 1 2 5"}, "07 12 30/99 00 05", sizes(2, 3, 0)},
		{"all heights", []string{"grid 07 12/30 99", "set 0 0 0", "set 0 1 1", "set 1 0 2", "set 1 1 99"}, "00 01/02 99", sizes(2, 2, 0)},
		{"turned and set", []string{"grid 07 12 30/99 00 05", "turn", "set 2 0 77"}, "99 07/00 12/77 30", sizes(3, 2, 0)},
	} {
		oks := strings.Repeat("ok\n", len(p.lines))
		t.Run(p.name, func(t *testing.T) {
			wantOutput(t, script(append(p.lines, "show")...), oks+p.shown, p.last)
		})
	}
}

// Promises 112 and 113: texts that are none of a grid leave the grid.
func TestExecuteNoGrid(t *testing.T) {
	for _, text := range []string{
		"", " ", "0", "7", "007", "100", "-1", "+1", "-01", " 07", "07 ", "07  12", "07 12 ", "07/", "/07", "07//12", "07/12 30", "07 12/30", "07 /12", "07/ 12", "x", "0x", "1e", "07,12", "07\t12",
		"07\r", "07\x00", "\x0007", "07\xff", "\u0660\u0661", "07\u00a012", "\ufeff07", "07 12 30 40 50 60 70 80", "01/02/03/04/05/06/07/08", "grid 07", "show",
		strings.Repeat(" ", 500), strings.Repeat("07 ", 150) + "07", strings.Repeat("07/", 150) + "07", strings.Repeat("0", 500),
	} {
		wantOutput(t, "grid 07 12\ngrid "+text+"\nshow\n", "ok", "no", "07 12", sizes(1, 2, 0))
		wantOutput(t, "grid "+text+"\nshow\n", "no", "00", sizes(1, 1, 0))
	}
}

// Promise 112: grids of each size up to 9 rows and columns, and texts of too many of both.
func TestExecuteGridLimits(t *testing.T) {
	for rows := 1; rows <= 9; rows++ {
		for cols := 1; cols <= 9; cols++ {
			g := fill(rows, cols, func(i int) int { return i })
			if rows <= 7 && cols <= 7 {
				wantOutput(t, script(gridLine(g), "show"), "ok", spell(g), sizes(rows, cols, 0))
			} else {
				wantOutput(t, script(gridLine(g), "show"), "no", "00", sizes(1, 1, 0))
			}
		}
	}
}

// Promise 112: each cell set, and those around the grid.
func TestExecuteSet(t *testing.T) {
	for _, g := range mixedGrids() {
		for r := range 9 {
			for c := range 9 {
				d := desk{g: g}
				answer := d.set(r, c, 98)
				wantOutput(t, script(gridLine(g), "set "+spaced([]int{r, c, 98}), "show"), "ok", answer, spell(d.g), sizesOf(g, 0))
			}
		}
	}
	for height := range 1000 {
		line := "set 0 0 " + strconv.Itoa(height)
		if height <= 99 {
			wantOutput(t, script(line, "show"), "ok", spell([][]int{{height}}), sizes(1, 1, 0))
		} else {
			wantOutput(t, script(line, "show"), "no", "00", sizes(1, 1, 0))
		}
	}
}

// Promise 113: the filled grid, as WaterFill has it.
func TestExecuteFill(t *testing.T) {
	for _, g := range waterGrids() {
		wantOutput(t, script(gridLine(g), "fill", "show"), "ok", "ok", spell(filled(t, g)), sizesOf(g, 0))
	}
}

// Promise 112: grids that are turned, mirrored and inverted.
func TestExecuteGridSteps(t *testing.T) {
	for _, g := range sampleGrids() {
		turned := turnedOf(g)
		wantOutput(t, script(gridLine(g), "turn", "show"), "ok", "ok", spell(turned), sizesOf(turned, 0))
		wantOutput(t, script(gridLine(g), "mirror", "show"), "ok", "ok", spell(mirroredOf(g)), sizesOf(g, 0))
		wantOutput(t, script(gridLine(g), "invert", "show"), "ok", "ok", spell(invertedOf(g)), sizesOf(g, 0))
	}
}

// Promise 112: lines that only ask change nothing, and steps of the grid leave the labels.
func TestExecuteGridAndLabels(t *testing.T) {
	lines := append([]string{gridLine(mixed(2, 3))}, nameLines(corners(1))...)
	_, last := cutOutput(t, script(lines...))
	if want := sizes(2, 3, 4) + "\n"; last != want {
		t.Fatalf("the last line is %q; want %q", last, want)
	}
	drawn := mapLines(corners(1))
	for _, step := range []string{"mirror", "invert", "fill", "set 1 1 5", "show", "run 0 0", "land 5", "peaks", "sees 0 0 2", "map", "place 1 1", "grid 01 02 03/04 05 06"} {
		got := impl.Execute(script(append(lines, step, "map")...))
		if !strings.HasSuffix(got, "\n"+drawn+"\n"+last) {
			t.Errorf("after %q, Execute returned %q", step, got)
		}
	}
	for _, line := range []string{"show", "run 0 0", "land 5", "peaks", "sees 0 0 2", "map", "place 1 1", "name 5 5 1 1"} {
		got := impl.Execute(script(gridLine(mixed(2, 3)), line, "show"))
		if !strings.Contains(got, "\n"+spell(mixed(2, 3))+"\nrows 2 ") {
			t.Errorf("after %q, Execute returned %q", line, got)
		}
	}
}
