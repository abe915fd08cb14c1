package tests

import (
	"strconv"
	"strings"
	"testing"

	"loop.example/reliefmaps/impl"
)

func TestSheetsLimits(t *testing.T) {
	if impl.SheetSide != 4 || impl.SheetsMax != 26 {
		t.Errorf("SheetSide is %d, SheetsMax is %d", impl.SheetSide, impl.SheetsMax)
	}
}

// Promises 74 to 77: places written out, with their sheets, the north-west of these, and their full names.
func TestSheetNamesByHand(t *testing.T) {
	for _, p := range []struct {
		x, y        int
		sheet, full string
		left, top   int
	}{
		{0, 0, "A1", "A1aa", 0, 0},
		{1, 0, "A1", "A1ab", 0, 0},
		{0, 1, "A1", "A1ac", 0, 0},
		{1, 1, "A1", "A1ad", 0, 0},
		{2, 0, "A1", "A1ba", 0, 0},
		{3, 1, "A1", "A1bd", 0, 0},
		{0, 2, "A1", "A1ca", 0, 0},
		{1, 3, "A1", "A1cd", 0, 0},
		{2, 2, "A1", "A1da", 0, 0},
		{3, 3, "A1", "A1dd", 0, 0},
		{4, 3, "A2", "A2cc", 4, 0},
		{3, 4, "B1", "B1bb", 0, 4},
		{4, 4, "B2", "B2aa", 4, 4},
		{47, 10, "C12", "C12db", 44, 8},
		{44, 8, "C12", "C12aa", 44, 8},
		{45, 8, "C12", "C12ab", 44, 8},
		{35, 39, "J9", "J9dd", 32, 36},
		{36, 40, "K10", "K10aa", 36, 40},
		{39, 35, "I10", "I10dd", 36, 32},
		{40, 36, "J11", "J11aa", 40, 36},
		{75, 76, "T19", "T19bb", 72, 76},
		{79, 80, "U20", "U20bb", 76, 80},
		{99, 99, "Y25", "Y25dd", 96, 96},
		{99, 100, "Z25", "Z25bb", 96, 100},
		{100, 99, "Y26", "Y26cc", 100, 96},
		{100, 100, "Z26", "Z26aa", 100, 100},
		{102, 101, "Z26", "Z26bc", 100, 100},
		{103, 103, "Z26", "Z26dd", 100, 100},
		{103, 0, "A26", "A26bb", 100, 0},
		{100, 3, "A26", "A26cc", 100, 0},
		{0, 103, "Z1", "Z1cc", 0, 100},
		{3, 100, "Z1", "Z1bb", 0, 100},
		{0, 100, "Z1", "Z1aa", 0, 100},
	} {
		if got, ok := impl.SheetOf(p.x, p.y); !ok || got != p.sheet {
			t.Errorf("SheetOf(%d, %d) = %q, %v; want %q", p.x, p.y, got, ok, p.sheet)
		}
		if got, ok := impl.PlaceName(p.x, p.y); !ok || got != p.full {
			t.Errorf("PlaceName(%d, %d) = %q, %v; want %q", p.x, p.y, got, ok, p.full)
		}
		if x, y, ok := impl.SheetFrom(p.sheet); !ok || x != p.left || y != p.top {
			t.Errorf("SheetFrom(%q) = %d, %d, %v; want %d, %d", p.sheet, x, y, ok, p.left, p.top)
		}
		if x, y, ok := impl.PlaceFrom(p.full); !ok || x != p.x || y != p.y {
			t.Errorf("PlaceFrom(%q) = %d, %d, %v; want %d, %d", p.full, x, y, ok, p.x, p.y)
		}
	}
}

// Promise 74: all places.
func TestSheetOf(t *testing.T) {
	names := namesOfSeries()
	for x, y := range eachPlace() {
		name := sheetOf(t, x, y)
		if name != names.sheetAt(x, y) {
			t.Fatalf("SheetOf(%d, %d) = %q; want %q", x, y, name, names.sheetAt(x, y))
		}
		left, top := sheetFrom(t, name)
		if left > x || x > left+3 || top > y || y > top+3 {
			t.Fatalf("SheetFrom(%q) = %d, %d, but %d, %d is there", name, left, top, x, y)
		}
		if full := placeName(t, x, y); !strings.HasPrefix(full, name) {
			t.Fatalf("PlaceName(%d, %d) = %q, SheetOf = %q", x, y, full, name)
		}
		beside, ok := impl.SheetBeside(name, 1, 0)
		if x+4 > 103 {
			wantNoName(t, "SheetBeside of the last column", beside, ok)
		} else if !ok || sheetOf(t, x+4, y) != beside {
			t.Fatalf("SheetBeside(%q, 1, 0) = %q, %v; SheetOf(%d, %d) = %q", name, beside, ok, x+4, y, sheetOf(t, x+4, y))
		}
	}
}

// Promise 75: all sheets.
func TestSheetFrom(t *testing.T) {
	names := namesOfSeries()
	for name, want := range names.sheetsAt {
		x, y, ok := impl.SheetFrom(name)
		if !ok || x != want.x || y != want.y {
			t.Fatalf("SheetFrom(%q) = %d, %d, %v; want %d, %d, true", name, x, y, ok, want.x, want.y)
		}
		if got := sheetOf(t, x, y); got != name {
			t.Errorf("SheetOf(%d, %d) = %q; want %q", x, y, got, name)
		}
		if got := placeName(t, x, y); got != name+"aa" {
			t.Errorf("PlaceName(%d, %d) = %q; want %q", x, y, got, name+"aa")
		}
		if x > 0 && sheetOf(t, x-1, y) == name {
			t.Errorf("SheetOf(%d, %d) is %q, too", x-1, y, name)
		}
		if y > 0 && sheetOf(t, x, y-1) == name {
			t.Errorf("SheetOf(%d, %d) is %q, too", x, y-1, name)
		}
	}
}

// Promise 76: all places; no two have one name.
func TestPlaceName(t *testing.T) {
	names := namesOfSeries()
	seen := map[string]bool{}
	for x, y := range eachPlace() {
		name, ok := impl.PlaceName(x, y)
		if !ok || name != names.places[y][x] {
			t.Fatalf("PlaceName(%d, %d) = %q, %v; want %q, true", x, y, name, ok, names.places[y][x])
		}
		if left, top, ok := impl.PlaceFrom(name); !ok || left != x || top != y {
			t.Fatalf("PlaceFrom(%q) = %d, %d, %v; want %d, %d, true", name, left, top, ok, x, y)
		}
		if len(name) != len(sheetOf(t, x, y))+2 {
			t.Fatalf("PlaceName(%d, %d) = %q, SheetOf = %q", x, y, name, sheetOf(t, x, y))
		}
		if seen[name] {
			t.Fatalf("PlaceName(%d, %d) = %q, as that of another place", x, y, name)
		}
		seen[name] = true
	}
}

// Promise 77: all full names.
func TestPlaceFrom(t *testing.T) {
	for name, want := range namesOfSeries().placesAt {
		x, y, ok := impl.PlaceFrom(name)
		if !ok || x != want.x || y != want.y {
			t.Fatalf("PlaceFrom(%q) = %d, %d, %v; want %d, %d, true", name, x, y, ok, want.x, want.y)
		}
		if got := placeName(t, x, y); got != name {
			t.Errorf("PlaceName(%d, %d) = %q; want %q", x, y, got, name)
		}
		sheet := sheetOf(t, x, y)
		if sheet != name[:len(name)-2] {
			t.Errorf("SheetOf(%d, %d) = %q; want %q without two letters", x, y, sheet, name)
		}
		left, top := sheetFrom(t, sheet)
		if x < left || x-left >= 4 || y < top || y-top >= 4 {
			t.Errorf("PlaceFrom(%q) = %d, %d, SheetFrom(%q) = %d, %d", name, x, y, sheet, left, top)
		}
	}
}

// Promises 74 and 76: coordinates that are none, as either one and as both.
func TestSheetOfRefuses(t *testing.T) {
	refuse := func(x, y int) {
		t.Helper()
		at := " of " + strconv.Itoa(x) + " and " + strconv.Itoa(y)
		name, ok := impl.SheetOf(x, y)
		wantNoName(t, "SheetOf"+at, name, ok)
		name, ok = impl.PlaceName(x, y)
		wantNoName(t, "PlaceName"+at, name, ok)
	}
	for _, no := range noCoordinates() {
		for _, n := range someCoordinates() {
			refuse(no, n)
			refuse(n, no)
		}
		for _, other := range noCoordinates() {
			refuse(no, other)
		}
	}
}

// Promises 75 and 77.
func TestSheetFromRefuses(t *testing.T) {
	for _, name := range noSheets() {
		x, y, ok := impl.SheetFrom(name)
		wantNoSpot(t, "SheetFrom of "+short(name), x, y, ok)
		for _, part := range strings.Fields(sheetParts) {
			x, y, ok = impl.PlaceFrom(name + part)
			wantNoSpot(t, "PlaceFrom of "+short(name)+" and "+part, x, y, ok)
		}
		x, y, ok = impl.PlaceFrom(name)
		wantNoSpot(t, "PlaceFrom of "+short(name), x, y, ok)
	}
	for name := range namesOfSeries().placesAt {
		x, y, ok := impl.SheetFrom(name)
		wantNoSpot(t, "SheetFrom of "+name, x, y, ok)
	}
}

// Promise 77: letters that name no place of a sheet, behind the names of sheets.
func TestPlaceFromRefuses(t *testing.T) {
	for _, sheet := range []string{"A1", "A9", "A10", "C12", "J26", "Z1", "Z26"} {
		for _, letters := range noLetters() {
			x, y, ok := impl.PlaceFrom(sheet + letters)
			wantNoSpot(t, "PlaceFrom of "+sheet+" and "+short(letters), x, y, ok)
			x, y, ok = impl.PlaceFrom(letters + sheet)
			wantNoSpot(t, "PlaceFrom of "+short(letters)+" and "+sheet, x, y, ok)
		}
	}
}

// checkName compares what a text names with the names of the series.
func checkName(t *testing.T, names *seriesNames, text string) {
	t.Helper()
	want, is := names.sheetsAt[text]
	if x, y, ok := impl.SheetFrom(text); ok != is || x != want.x || y != want.y {
		t.Errorf("SheetFrom(%q) = %d, %d, %v; want %d, %d, %v", text, x, y, ok, want.x, want.y, is)
	}
	want, is = names.placesAt[text]
	if x, y, ok := impl.PlaceFrom(text); ok != is || x != want.x || y != want.y {
		t.Errorf("PlaceFrom(%q) = %d, %d, %v; want %d, %d, %v", text, x, y, ok, want.x, want.y, is)
	}
}

// Promises 75 and 77: one byte of a name replaced, put in, or left out.
func TestNamesOneByteOff(t *testing.T) {
	names := namesOfSeries()
	for _, name := range []string{"A1", "J9", "K10", "C12", "T20", "Z26", "A1aa", "A1dd", "B9ac", "C12db", "Y20bd", "Z26dd", "Z26ca"} {
		for i := range len(name) + 1 {
			for b := range 256 {
				checkName(t, names, name[:i]+string([]byte{byte(b)})+name[i:])
				if i < len(name) {
					checkName(t, names, name[:i]+string([]byte{byte(b)})+name[i+1:])
				}
			}
			if i < len(name) {
				checkName(t, names, name[:i]+name[i+1:])
			}
			checkName(t, names, name[:i])
			checkName(t, names, name[i:])
		}
	}
}

// Promises 75 and 77: all texts of at most five bytes of a few.
func TestNamesOfFewBytes(t *testing.T) {
	names := namesOfSeries()
	var check func(text string)
	check = func(text string) {
		checkName(t, names, text)
		if len(text) < 5 {
			for _, b := range "@AZ[0126789`ade-+ " {
				check(text + string(b))
			}
		}
	}
	check("")
}
