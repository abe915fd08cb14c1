package tests

import (
	"fmt"
	"regexp"
	"strings"
	"testing"

	"loop.example/reliefmaps/impl"
)

// spell writes the text of a grid in another way than the program.
func spell(g [][]int) string {
	var rows []string
	for _, row := range g {
		var words []string
		for _, h := range row {
			words = append(words, fmt.Sprintf("%02d", h))
		}
		rows = append(rows, strings.Join(words, " "))
	}
	return strings.Join(rows, "/")
}

var gridPattern = regexp.MustCompile(`^[0-9]{2}( [0-9]{2}){0,6}(/[0-9]{2}( [0-9]{2}){0,6}){0,6}$`)

// isGridText reports whether a string is a text, in another way than the program.
func isGridText(s string) bool {
	if !gridPattern.MatchString(s) {
		return false
	}
	rows := strings.Split(s, "/")
	for _, row := range rows {
		if len(row) != len(rows[0]) {
			return false
		}
	}
	return true
}

// checkFrom compares GridFrom of a string with isGridText.
func checkFrom(t *testing.T, s string) {
	t.Helper()
	g, ok := impl.GridFrom(s)
	if !isGridText(s) {
		if ok || len(g) != 0 {
			t.Errorf("GridFrom(%q) = %v, %v; want none, false", s, g, ok)
		}
		return
	}
	if !ok || !impl.GridValid(g) || spell(g) != s || impl.GridText(g) != s {
		t.Errorf("GridFrom(%q) = %v, %v", s, g, ok)
	}
}

// Promise 11.
func TestGridText(t *testing.T) {
	for _, g := range sampleGrids() {
		s := impl.GridText(g)
		if s != spell(g) || len(s) != 3*len(g)*len(g[0])-1 {
			t.Errorf("GridText(%v) = %q", g, s)
		}
		x, ok := impl.GridFrom(s)
		wantGrid(t, "GridFrom of GridText", x, ok, g)
	}
	for h := range 100 {
		if s := impl.GridText([][]int{{h}}); s != fmt.Sprintf("%02d", h) {
			t.Errorf("GridText of %d is %q", h, s)
		}
	}
	for name, bad := range badGrids() {
		if s := impl.GridText(bad); s != "" {
			t.Errorf("GridText of %s is %q", name, s)
		}
	}
}

// Promise 12: texts of all sizes, and with a further digit, or anything else behind or ahead of them.
func TestGridFrom(t *testing.T) {
	for _, g := range sampleGrids() {
		s := spell(g)
		x, ok := impl.GridFrom(s)
		wantGrid(t, "GridFrom", x, ok, g)
		checkFrom(t, s)
		for _, more := range []string{"0", "5", "9", " ", "/", " 0", "/0", "\n", "\x00", "  00", "//00", " /00"} {
			x, ok := impl.GridFrom(s + more)
			wantNone(t, "GridFrom with more behind the text", x, ok)
			checkFrom(t, more+s)
		}
		checkFrom(t, s+" 00")
		checkFrom(t, s+"/00")
	}
}

// Promise 12: texts from 1 to 9 rows and columns.
func TestGridFromLimits(t *testing.T) {
	for rows := 1; rows <= 9; rows++ {
		for cols := 1; cols <= 9; cols++ {
			s := spell(fill(rows, cols, func(i int) int { return i % 100 }))
			g, ok := impl.GridFrom(s)
			if ok != (rows <= 7 && cols <= 7) {
				t.Errorf("GridFrom of %d rows and %d columns is %v, %v", rows, cols, g, ok)
			}
			checkFrom(t, s)
		}
	}
}

// Promise 12: any two bytes.
func TestGridFromTwoBytes(t *testing.T) {
	for a := range 256 {
		for b := range 256 {
			checkFrom(t, string([]byte{byte(a), byte(b)}))
		}
	}
}

// Promise 12: texts with one byte replaced, left out or put in.
func TestGridFromOneByteOff(t *testing.T) {
	for _, s := range []string{"07", "07 12", "07 12 30", "07/12", "07/12/30", "07 12/30 99", "07 12 30/40 50 60"} {
		for i := range len(s) + 1 {
			for b := range 256 {
				checkFrom(t, s[:i]+string([]byte{byte(b)})+s[i:])
				if i < len(s) {
					checkFrom(t, s[:i]+string([]byte{byte(b)})+s[i+1:])
				}
			}
			if i < len(s) {
				checkFrom(t, s[:i]+s[i+1:])
			}
		}
	}
}

// Promise 12: malformed texts, one by one.
func TestGridFromMalformed(t *testing.T) {
	texts := []string{
		"", " ", "/", "0", "7", "007", "100", "-1", "+1", "-01", "+01", " 7", "7 ", "0x", "1e", "١٢", "7 12",
		"07 ", " 07", "07/", "/07", "07  12", "07//12", "07 /12", "07/ 12", "07 12/30", "07/30 99", "07 12/30 99 11",
		"07,12", "07\t12", "07;12", "07\n12", "07\\12", "07 12\n", "07 12\r\n", "\ufeff07", "07\u00a012", "07 12/30 100",
	}
	for _, s := range texts {
		g, ok := impl.GridFrom(s)
		wantNone(t, fmt.Sprintf("GridFrom(%q)", s), g, ok)
	}
}

// Promise 12: texts far beyond the greatest grid.
func TestGridFromLongTexts(t *testing.T) {
	for _, piece := range []string{"0", "07", " ", "/", "07 ", "07/", "07 12/"} {
		g, ok := impl.GridFrom(strings.Repeat(piece, 1<<20))
		wantNone(t, "GridFrom of a long text", g, ok)
	}
}
