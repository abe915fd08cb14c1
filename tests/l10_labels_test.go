package tests

import (
	"fmt"
	"strings"
	"testing"

	"loop.example/reliefmaps/impl"
)

// Promise 117: maps written out.
func TestExecuteMapByHand(t *testing.T) {
	for _, p := range []struct {
		name   string
		lines  []string
		answer string
	}{
		{"no labels", nil, emptyLines(10)},
		{"one label", []string{"name 3 0 5 1"}, "...*00000.\n" + emptyLines(9)},
		{"to the west", []string{"name 9 0 5 1"}, "....00000*\n" + emptyLines(9)},
		{"to the north", []string{"name 2 9 5 1", "name 8 9 1 9", "name 3 9 1 9"}, emptyLines(8) + "..00000...\n..**2...*1\n"},
		{"two labels in each other's way", []string{"name 3 0 5 5", "name 9 0 5 4"}, "...*11111*\n...00000..\n" + emptyLines(8)},
		{"two labels without room", []string{"name 0 0 1 1", "name 1 0 1 9", "name 2 0 1 1", "name 0 1 1 1", "name 1 1 1 1", "name 2 1 1 1"}, "***2......\n***5......\n34........\n" + emptyLines(7)},
	} {
		t.Run(p.name, func(t *testing.T) {
			lines := append(p.lines, "map")
			wantOutput(t, script(lines...), strings.Repeat("ok\n", len(p.lines))+strings.TrimSuffix(p.answer, "\n"), sizes(1, 1, len(p.lines)))
		})
	}
}

// Promise 117: a line for each label of a list, and the map of SettingBest.
func TestExecuteMap(t *testing.T) {
	for _, a := range sampleAnswers() {
		list := a.list
		text := script(append(nameLines(list), "map")...)
		want := strings.Repeat("ok\n", len(list)) + impl.SettingText(list, settingBest(t, list)) + sizes(1, 1, len(list)) + "\n"
		if got := impl.Execute(text); got != want {
			t.Errorf("Execute(%q) returned\n%swant\n%s", text, got, want)
		}
		if drawn := spelledRows(list, a.best); !strings.HasSuffix(want, drawn+sizes(1, 1, len(list))+"\n") {
			t.Errorf("SettingText of %v is not\n%s", list, drawn)
		}
	}
}

// Promise 117: labels in another order are others, since maps have their indexes.
func TestExecuteNamesInOrder(t *testing.T) {
	wantOutput(t, "name 0 0 1 1\nname 0 5 2 1\nmap\n", "ok", "ok", "*0........\n"+emptyLines(4)+"*11.......\n"+strings.TrimSuffix(emptyLines(4), "\n"), sizes(1, 1, 2))
	wantOutput(t, "name 0 5 2 1\nname 0 0 1 1\nmap\n", "ok", "ok", "*1........\n"+emptyLines(4)+"*00.......\n"+strings.TrimSuffix(emptyLines(4), "\n"), sizes(1, 1, 2))
}

// Promise 117: six labels, and a seventh.
func TestExecuteSeventhName(t *testing.T) {
	six := nameLines(labelRow(6))
	oks := strings.Repeat("ok\n", 6)
	drawn := mapLines(labelRow(6))
	wantOutput(t, script(six...), oks+sizes(1, 1, 6))
	wantOutput(t, script(append(six, "name 9 9 1 1")...), oks+"no", sizes(1, 1, 6))
	wantOutput(t, script(append(six, "name 9 9 1 1", "name 8 8 1 1", "map")...), oks+"no", "no", drawn, sizes(1, 1, 6))
	wantOutput(t, script(append(six, "name 10 9 1 1", "name 0 1 1 1", "map")...), oks+"no", "no", drawn, sizes(1, 1, 6))
	wantOutput(t, script(append([]string{"name 9 9 1 0"}, append(six, "map")...)...), "no", oks+drawn, sizes(1, 1, 6))
}

// Promise 117: labels that do not fit are left, and those that follow are put behind the ones that do.
func TestExecuteNamesThatFail(t *testing.T) {
	for x := range 12 {
		for y := range 12 {
			for width := range 7 {
				for _, weight := range []int{0, 1, 9, 10} {
					line := fmt.Sprintf("name %d %d %d %d", x, y, width, weight)
					fits := x < 10 && y < 10 && 1 <= width && width < 6 && 1 <= weight && weight < 10
					answer, labels := "no", 0
					if fits {
						answer, labels = "ok", 1
					}
					wantOutput(t, line+"\n", answer, sizes(1, 1, labels))
				}
			}
		}
	}
	wantOutput(t, "name 4 4 1 1\nname 4 4 1 1\nname 4 4 5 9\nname 4 5 1 1\nname 5 4 1 1\nname 4 5 2 2\nname 5 4 3 3\n",
		"ok", "no", "no", "ok", "ok", "no", "no", sizes(1, 1, 3))
	wantOutput(t, "name 10 0 5 1\nname 0 0 2 1\nname 0 0 3 1\nname 0 5 4 1\nmap\n",
		"no", "ok", "no", "ok", "*00.......\n"+emptyLines(4)+"*1111.....\n"+strings.TrimSuffix(emptyLines(4), "\n"), sizes(1, 1, 2))
}

// Promise 117: maps between labels have those that are there by then.
func TestExecuteMapsBetween(t *testing.T) {
	for _, list := range smallSamples(4) {
		text, want := "map\n", mapLines(nil)+"\n"
		for k := range list {
			text += nameLine(list[k]) + "\nmap\n"
			want += "ok\n" + mapLines(list[:k+1]) + "\n"
		}
		wantOutput(t, text, want+sizes(1, 1, len(list)))
	}
}
