package tests

import (
	"fmt"
	"strconv"
	"testing"

	"loop.example/reliefmaps/impl"
)

// Promises 114 to 116: answers written out.
func TestExecuteAnswersByHand(t *testing.T) {
	for _, p := range []struct {
		grid, line, answer string
	}{
		{"05 05 05/05 01 04/05 05 05", "run 2 2", "8 5 4"},
		{"05 05 05/05 01 04/05 05 05", "run 1 1", "4"},
		{"05 05 05/05 01 04/05 05 05", "run 0 0", "0"},
		{"05 05 05/05 01 04/05 05 05", "run 3 0", "no"},
		{"05 05 05/05 01 04/05 05 05", "run 0 3", "no"},
		{"09 08 07 06 05 04 03", "run 0 0", "0 1 2 3 4 5 6"},
		{"03/04/05/06/07/08/09", "run 6 0", "6 5 4 3 2 1 0"},
		{"05 05 05/05 01 04/05 05 05", "land 5", "7 1 0"},
		{"05 05 05/05 01 05/05 05 05", "land 5", "8 1 1"},
		{"05 05 05/05 01 05/05 05 05", "land 1", "9 1 0"},
		{"05 05 05/05 01 05/05 05 05", "land 0", "9 1 0"},
		{"05 05 05/05 01 05/05 05 05", "land 6", "0 0 0"},
		{"05 01 05/01 05 01/05 01 05", "land 5", "5 5 0"},
		{"01 05 01/05 01 05/01 05 01", "land 2", "4 4 0"},
		{"05 99", "land 99", "1 1 0"},
		{"05 99", "land 100", "no"},
		{"05 05 05/05 01 04/05 05 05", "peaks", "0:4"},
		{"05 02 09 02 07", "peaks", "2:7 4:5 0:3"},
		{"09/03/06/03/05", "peaks", "0:6 2:3 4:2"},
		{"99 00 99/00 99 00/99 00 99", "peaks", "0:99 2:99 4:99 6:99 8:99"},
		{"00 00/00 00", "peaks", "0:0"},
		{"07", "peaks", "0:0"},
		{"01 02 03", "peaks", "2:2"},
		{"05 03 05/01 09 01", "sees 0 0 2", "yes"},
		{"05 03 05/01 09 01", "sees 1 0 2", "hidden"},
		{"05 03 05/01 09 01", "sees 1 2 0", "hidden"},
		{"05 03 05/01 09 01", "sees 1 0 1", "yes"},
		{"05 03 05/01 09 01", "sees 1 2 2", "yes"},
		{"05 06 07", "sees 0 0 2", "yes"},
		{"05 07 07", "sees 0 0 2", "hidden"},
		{"05 03 05/01 09 01", "sees 2 0 2", "no"},
		{"05 03 05/01 09 01", "sees 0 3 0", "no"},
		{"05 03 05/01 09 01", "sees 0 0 3", "no"},
		{"05 03 05/01 09 01", "sees 0 3 3", "no"},
		{"05/03/05", "sees 0 0 1", "no"},
		{"05/03/05", "sees 2 0 0", "yes"},
		{"00", "place 0 0", "A1aa"},
		{"00", "place 103 103", "Z26dd"},
		{"00", "place 47 10", "C12db"},
		{"00", "place 10 47", "L3dc"},
		{"00", "place 103 0", "A26bb"},
		{"00", "place 0 103", "Z1cc"},
		{"00", "place 104 103", "no"},
		{"00", "place 103 104", "no"},
	} {
		t.Run(p.grid+" "+p.line, func(t *testing.T) {
			wantAnswer(t, []string{"grid " + p.grid}, p.line, p.answer)
		})
	}
}

// Promise 114: the run of each cell, and of those around the grid.
func TestExecuteRun(t *testing.T) {
	for _, g := range peakGrids() {
		for i := range heightsOf(g) {
			r, c := i/len(g[0]), i%len(g[0])
			wantOutput(t, script(gridLine(g), fmt.Sprintf("run %d %d", r, c)), "ok", spaced(run(t, g, i)), sizesOf(g, 0))
		}
		last := []int{len(g) - 1, len(g[0]) - 1}
		wantOutput(t, script(gridLine(g), "run "+spaced([]int{last[0] + 1, last[1]}), "run "+spaced([]int{last[0], last[1] + 1})), "ok", "no", "no", sizesOf(g, 0))
	}
}

// Promise 115: the numbers of each level.
func TestExecuteLand(t *testing.T) {
	for _, g := range peakGrids() {
		for _, level := range levelsOf(g) {
			counts := []int{impl.LevelLand(g, level), impl.LevelRegions(g, level), impl.LevelLakes(g, level)}
			wantOutput(t, script(gridLine(g), "land "+strconv.Itoa(level)), "ok", spaced(counts), sizesOf(g, 0))
		}
	}
	for level := 100; level < 1000; level++ {
		wantAnswer(t, twoByThree(), "land "+strconv.Itoa(level), "no")
	}
}

// Promise 116: all peaks with their prominences.
func TestExecutePeaks(t *testing.T) {
	for _, g := range peakGrids() {
		answer := ""
		for k, peak := range impl.PeakList(g) {
			if k > 0 {
				answer += " "
			}
			answer += fmt.Sprintf("%d:%d", peak, impl.PeakProminence(g, peak))
		}
		if answer != peaksLine(g) {
			t.Fatalf("PeakList and PeakProminence of %v make %q; want %q", g, answer, peaksLine(g))
		}
		wantOutput(t, script(gridLine(g), "peaks"), "ok", answer, sizesOf(g, 0))
	}
}

// All points of all rows, and those around them.
func TestExecuteSees(t *testing.T) {
	for _, g := range append(mixedGrids(), steps(7, 7, 3, 1), steps(7, 7, 5, 2), steps(7, 7, 30, 3)) {
		for r := range len(g) + 1 {
			for i := range len(g[0]) + 1 {
				for k := range len(g[0]) + 1 {
					d := desk{g: g}
					wantOutput(t, script(gridLine(g), fmt.Sprintf("sees %d %d %d", r, i, k)), "ok", d.sees(r, i, k), sizesOf(g, 0))
				}
			}
		}
	}
}

// All places of the series, and those around it.
func TestExecutePlace(t *testing.T) {
	for x := range 107 {
		for y := range 107 {
			wantOutput(t, fmt.Sprintf("place %d %d\n", x, y), placeLine(x, y), sizes(1, 1, 0))
		}
	}
}
