package tests

import (
	"strings"
	"testing"

	"loop.example/reliefmaps/impl"
)

// Promise 80: distances written out.
func TestPlaceFarByHand(t *testing.T) {
	for _, p := range []struct{ ax, ay, bx, by, want int }{
		{0, 0, 0, 0, 0},
		{103, 103, 103, 103, 0},
		{47, 10, 47, 10, 0},
		{0, 0, 1, 0, 1},
		{0, 0, 0, 1, 1},
		{0, 0, 1, 1, 2},
		{5, 5, 4, 5, 1},
		{5, 5, 5, 4, 1},
		{5, 5, 4, 6, 2},
		{5, 5, 6, 4, 2},
		{3, 3, 4, 4, 2},
		{0, 0, 103, 0, 103},
		{0, 0, 0, 103, 103},
		{0, 0, 103, 103, 206},
		{103, 0, 0, 103, 206},
		{10, 20, 13, 24, 7},
		{13, 20, 10, 24, 7},
	} {
		if got := impl.PlaceFar(p.ax, p.ay, p.bx, p.by); got != p.want {
			t.Errorf("PlaceFar(%d, %d, %d, %d) = %d; want %d", p.ax, p.ay, p.bx, p.by, got, p.want)
		}
	}
}

// stepsFrom goes over the series from a place, step by step.
func stepsFrom(x, y int) map[mapPlace]int {
	steps := map[mapPlace]int{{x, y}: 0}
	ahead := []mapPlace{{x, y}}
	for len(ahead) > 0 {
		p := ahead[0]
		ahead = ahead[1:]
		for _, q := range []mapPlace{{p.x, p.y - 1}, {p.x + 1, p.y}, {p.x, p.y + 1}, {p.x - 1, p.y}} {
			if _, met := steps[q]; !met && min(q.x, q.y) >= 0 && max(q.x, q.y) <= 103 {
				steps[q] = steps[p] + 1
				ahead = append(ahead, q)
			}
		}
	}
	return steps
}

// Promise 80: from some places to all others.
func TestPlaceFar(t *testing.T) {
	for _, x := range []int{0, 3, 4, 52, 100, 103} {
		for _, y := range []int{0, 3, 4, 52, 100, 103} {
			for p, want := range stepsFrom(x, y) {
				got := impl.PlaceFar(x, y, p.x, p.y)
				if got != want || impl.PlaceFar(p.x, p.y, x, y) != want {
					t.Fatalf("PlaceFar(%d, %d, %d, %d) = %d; want %d", x, y, p.x, p.y, got, want)
				}
				if (got == 0) != (p == mapPlace{x, y}) {
					t.Fatalf("PlaceFar(%d, %d, %d, %d) = %d", x, y, p.x, p.y, got)
				}
				if least := impl.SheetFar(sheetOf(t, x, y), sheetOf(t, p.x, p.y)); least < 0 || got < least {
					t.Fatalf("PlaceFar(%d, %d, %d, %d) = %d, but SheetFar of both sheets is %d", x, y, p.x, p.y, got, least)
				}
			}
		}
	}
}

// Promise 80: over a third place it is no less.
func TestPlaceFarOverAThird(t *testing.T) {
	var places []mapPlace
	for _, x := range someCoordinates() {
		for _, y := range []int{0, 4, 35, 80, 103} {
			places = append(places, mapPlace{x, y})
		}
	}
	for _, a := range places {
		for _, b := range places {
			far := impl.PlaceFar(a.x, a.y, b.x, b.y)
			for _, c := range places {
				if over := impl.PlaceFar(a.x, a.y, c.x, c.y) + impl.PlaceFar(c.x, c.y, b.x, b.y); far > over {
					t.Fatalf("PlaceFar of %v and %v is %d, over %v it is %d", a, b, far, c, over)
				}
			}
		}
	}
}

// Promise 81: distances written out.
func TestSheetFarByHand(t *testing.T) {
	for _, s := range []struct {
		a, b string
		want int
	}{
		{"A1", "A1", 0},
		{"C12", "C12", 0},
		{"Z26", "Z26", 0},
		{"A1", "A2", 1},
		{"A1", "B1", 1},
		{"A1", "B2", 2},
		{"B1", "A2", 2},
		{"A1", "A3", 5},
		{"A1", "C1", 5},
		{"A1", "C2", 6},
		{"A1", "C3", 10},
		{"J9", "K10", 2},
		{"A9", "A10", 1},
		{"A1", "A10", 33},
		{"A1", "A26", 97},
		{"A1", "Z1", 97},
		{"A1", "Z26", 194},
		{"A26", "Z1", 194},
		{"Z25", "Z26", 1},
		{"Y26", "Z26", 1},
		{"Y25", "Z26", 2},
		{"Y26", "Z25", 2},
	} {
		if got := impl.SheetFar(s.a, s.b); got != s.want {
			t.Errorf("SheetFar(%q, %q) = %d; want %d", s.a, s.b, got, s.want)
		}
		if got := impl.SheetFar(s.b, s.a); got != s.want {
			t.Errorf("SheetFar(%q, %q) = %d; want %d", s.b, s.a, got, s.want)
		}
	}
}

// leastApart returns how far the nearest coordinates of two rows or two columns of sheets are apart.
func leastApart(a, b int) int {
	least := 1000
	for m := 4 * a; m < 4*a+4; m++ {
		for n := 4 * b; n < 4*b+4; n++ {
			least = min(least, max(m-n, n-m))
		}
	}
	return least
}

// Promise 81: all sheets.
func TestSheetFar(t *testing.T) {
	var apart [26][26]int
	for a := range 26 {
		for b := range 26 {
			apart[a][b] = leastApart(a, b)
		}
	}
	names := namesOfSeries()
	for i := range 26 * 26 {
		for k := range 26 * 26 {
			a, b := names.sheets[i/26][i%26], names.sheets[k/26][k%26]
			if got, want := impl.SheetFar(a, b), apart[i/26][k/26]+apart[i%26][k%26]; got != want {
				t.Fatalf("SheetFar(%q, %q) = %d; want %d", a, b, got, want)
			}
		}
	}
}

// Promise 81: PlaceFar of all places of both sheets.
func TestSheetFarIsLeast(t *testing.T) {
	sheets := strings.Fields("A1 A2 A3 B1 B2 B9 B10 C3 C12 M13 M14 N13 N14 Y25 Y26 Z1 Z2 Z9 Z10 Z25 Z26")
	for _, a := range sheets {
		for _, b := range sheets {
			ax, ay := sheetFrom(t, a)
			bx, by := sheetFrom(t, b)
			least := 1000
			for i := range 16 {
				for k := range 16 {
					least = min(least, impl.PlaceFar(ax+i%4, ay+i/4, bx+k%4, by+k/4))
				}
			}
			if got := impl.SheetFar(a, b); got != least || impl.SheetFar(b, a) != least {
				t.Errorf("SheetFar(%q, %q) = %d; the least PlaceFar is %d", a, b, got, least)
			}
		}
	}
}

// Promise 81: texts that are no sheet, in either place and in both.
func TestSheetFarRefuses(t *testing.T) {
	for _, text := range append(noSheets(), "A1aa", "C12db", "Z26dd") {
		for _, name := range []string{"A1", "C12", "Z26", text} {
			if got := impl.SheetFar(text, name); got != -1 {
				t.Errorf("SheetFar of %s and %s is %d", short(text), short(name), got)
			}
			if got := impl.SheetFar(name, text); got != -1 {
				t.Errorf("SheetFar of %s and %s is %d", short(name), short(text), got)
			}
		}
	}
}
