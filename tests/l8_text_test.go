package tests

import (
	"strings"
	"testing"

	"loop.example/reliefmaps/impl"
)

// spelledRows writes what drawnSetting returns, or nothing if there is no setting.
func spelledRows(list []impl.Label, sides []int) string {
	rows, ok := drawnSetting(list, sides)
	if !ok {
		return ""
	}
	text := ""
	for _, row := range rows {
		text += string(row[:]) + "\n"
	}
	return text
}

// emptyLines has so many lines of an empty map.
func emptyLines(many int) string {
	return strings.Repeat("..........\n", many)
}

// Promise 97: maps written out.
func TestSettingTextByHand(t *testing.T) {
	six := []impl.Label{label(3, 4, 2, 1), label(6, 4, 3, 1), label(3, 6, 5, 1), label(8, 6, 1, 1), label(0, 8, 4, 1), label(9, 8, 5, 1)}
	for _, p := range []struct {
		name  string
		list  []impl.Label
		sides []int
		want  string
	}{
		{"no label", nil, nil, emptyLines(10)},
		{"one label, left out", []impl.Label{label(7, 3, 1, 1)}, []int{-1}, emptyLines(3) + ".......*..\n" + emptyLines(6)},
		{"to the east", []impl.Label{label(7, 3, 2, 1)}, []int{0}, emptyLines(3) + ".......*00\n" + emptyLines(6)},
		{"to the west", []impl.Label{label(7, 3, 2, 1)}, []int{1}, emptyLines(3) + ".....00*..\n" + emptyLines(6)},
		{"to the north", []impl.Label{label(7, 3, 2, 1)}, []int{2}, emptyLines(2) + ".......00.\n.......*..\n" + emptyLines(6)},
		{"to the south", []impl.Label{label(7, 3, 2, 1)}, []int{3}, emptyLines(3) + ".......*..\n.......00.\n" + emptyLines(5)},
		{"the corners", corners(5), []int{3, 1, 2, -1}, "*...11111*\n00000.....\n" + emptyLines(6) + "22222.....\n*........*\n"},
		{"six labels", six, []int{2, 0, 2, 3, 0, -1},
			emptyLines(3) + "...00.....\n...*..*111\n...22222..\n...*....*.\n........3.\n*4444....*\n" + emptyLines(1)},
		{"six labels, two on one place", six, []int{2, 0, 2, 3, 0, 1}, ""},
		{"six labels, set otherwise", six, []int{1, 3, 3, -1, -1, 1},
			emptyLines(4) + ".00*..*...\n......111.\n...*....*.\n...22222..\n*...55555*\n" + emptyLines(1)},
	} {
		if got := impl.SettingText(p.list, p.sides); got != p.want {
			t.Errorf("%s: SettingText returned\n%swant\n%s", p.name, got, p.want)
		}
	}
}

// Promise 97: maps of all settings of few labels.
func TestSettingTextOfFew(t *testing.T) {
	for _, list := range smallSamples(4) {
		for sides := range sidesOf(len(list)) {
			checkText(t, list, sides)
		}
	}
}

// Promise 97: maps of the settings that the program finds.
func TestSettingText(t *testing.T) {
	for _, a := range sampleAnswers() {
		checkText(t, a.list, a.best)
		checkText(t, a.list, a.greedy)
		checkText(t, a.list, noneSet(a.list))
	}
}

// checkText also counts lines, stars and digits.
func checkText(t *testing.T, list []impl.Label, sides []int) {
	t.Helper()
	got, want := impl.SettingText(list, sides), spelledRows(list, sides)
	if got != want {
		t.Fatalf("SettingText of %v and %v returned\n%swant\n%s", list, sides, got, want)
	}
	if got == "" {
		return
	}
	wide := 0
	for k, side := range sides {
		if side != -1 {
			wide += list[k].Width
		}
	}
	digits := 0
	for digit := range len(list) {
		digits += strings.Count(got, string(rune('0'+digit)))
	}
	if len(got) != 110 || strings.Count(got, "\n") != 10 || strings.Count(got, "*") != len(list) || digits != wide {
		t.Fatalf("SettingText of %v and %v returned\n%s", list, sides, got)
	}
}
