package tests

import (
	"fmt"
	"regexp"
	"slices"
	"strconv"
	"strings"
	"sync"
	"testing"

	"loop.example/reliefmaps/impl"
)

// script has a newline behind each line.
func script(lines ...string) string {
	text := ""
	for _, line := range lines {
		text += line + "\n"
	}
	return text
}

// sizes is the last line of an output.
func sizes(rows, cols, labels int) string {
	return fmt.Sprintf("rows %d columns %d labels %d", rows, cols, labels)
}

func sizesOf(g [][]int, labels int) string {
	return sizes(len(g), len(g[0]), labels)
}

// wantOutput fails unless a script has these lines as its output.
func wantOutput(t *testing.T, text string, lines ...string) {
	t.Helper()
	if got, want := impl.Execute(text), script(lines...); got != want {
		t.Errorf("Execute(%q) returned %q; want %q", text, got, want)
	}
}

// checkScript compares the output of a script with the document's.
func checkScript(t *testing.T, text string) {
	t.Helper()
	if got, want := impl.Execute(text), outputOf(text); got != want {
		t.Fatalf("Execute(%q) returned %q; want %q", text, got, want)
	}
}

// cutOutput returns what a script prints ahead of the last line, and this line.
func cutOutput(t *testing.T, text string) (string, string) {
	t.Helper()
	output := impl.Execute(text)
	lines := strings.SplitAfter(output, "\n")
	end := len(lines) - 2
	if end < 0 || lines[end+1] != "" || !lastLine.MatchString(lines[end]) {
		t.Fatalf("Execute(%q) returned %q", text, output)
	}
	return strings.Join(lines[:end], ""), lines[end]
}

var lastLine = regexp.MustCompile(`^rows [1-7] columns [1-7] labels [0-6]\n$`)

// desk follows the document word for word, and finds its answers without the program.
type desk struct {
	g      [][]int
	labels []impl.Label
}

func outputOf(text string) string {
	if len(text) > 600 {
		return "too long\n"
	}
	d := &desk{g: [][]int{{0}}}
	output := ""
	for {
		line, rest, ended := strings.Cut(text, "\n")
		if !ended {
			return output + sizesOf(d.g, len(d.labels)) + "\n"
		}
		output += d.answerTo(line) + "\n"
		text = rest
	}
}

func (d *desk) answerTo(line string) string {
	if text, ok := strings.CutPrefix(line, "grid "); ok {
		return d.read(text)
	}
	words := strings.Split(line, " ")
	n := countsOf(words[1:])
	switch words[0] + "/" + strconv.Itoa(len(n)) {
	case "set/3":
		return d.set(n[0], n[1], n[2])
	case "turn/0":
		return d.become(turnedOf(d.g))
	case "mirror/0":
		return d.become(mirroredOf(d.g))
	case "invert/0":
		return d.become(invertedOf(d.g))
	case "fill/0":
		return d.become(fillOf(d.g))
	case "show/0":
		return spell(d.g)
	case "run/2":
		return d.run(n[0], n[1])
	case "land/1":
		return d.land(n[0])
	case "peaks/0":
		return peaksLine(d.g)
	case "sees/3":
		return d.sees(n[0], n[1], n[2])
	case "name/4":
		return d.name(label(n[0], n[1], n[2], n[3]))
	case "map/0":
		return mapLines(d.labels)
	case "place/2":
		return placeLine(n[0], n[1])
	}
	return "what"
}

var numberPattern = regexp.MustCompile(`^[0-9]{1,3}$`)

func countsOf(words []string) []int {
	var counts []int
	for _, word := range words {
		n := 9999
		if numberPattern.MatchString(word) {
			n, _ = strconv.Atoi(word)
		}
		counts = append(counts, n)
	}
	return counts
}

func (d *desk) become(g [][]int) string {
	d.g = g
	return "ok"
}

func (d *desk) read(text string) string {
	if !isGridText(text) {
		return "no"
	}
	var g [][]int
	for _, row := range strings.Split(text, "/") {
		g = append(g, countsOf(strings.Split(row, " ")))
	}
	return d.become(g)
}

func (d *desk) set(r, c, height int) string {
	if r >= len(d.g) || c >= len(d.g[0]) || height > 99 {
		return "no"
	}
	g := cloneGrid(d.g)
	g[r][c] = height
	return d.become(g)
}

func (d *desk) run(r, c int) string {
	if r >= len(d.g) || c >= len(d.g[0]) {
		return "no"
	}
	return spaced(runOf(d.g, r*len(d.g[0])+c))
}

func (d *desk) land(level int) string {
	if level > 99 {
		return "no"
	}
	return landLine(d.g, level)
}

func (d *desk) sees(r, i, k int) string {
	if r >= len(d.g) || i >= len(d.g[0]) || k >= len(d.g[0]) {
		return "no"
	}
	return seesLine(d.g[r], i, k)
}

func (d *desk) name(s impl.Label) string {
	fits := len(d.labels) < 6 && s.X <= 9 && s.Y <= 9 && 1 <= s.Width && s.Width <= 5 && 1 <= s.Weight && s.Weight <= 9
	for _, other := range d.labels {
		fits = fits && pointOf(other) != pointOf(s)
	}
	if !fits {
		return "no"
	}
	d.labels = append(d.labels, s)
	return "ok"
}

// spaced writes numbers with spaces between.
func spaced(numbers []int) string {
	return strings.Trim(fmt.Sprint(numbers), "[]")
}

func turnedOf(g [][]int) [][]int {
	return fill(len(g[0]), len(g), func(i int) int { return g[len(g)-1-i%len(g)][i/len(g)] })
}

func mirroredOf(g [][]int) [][]int {
	x := cloneGrid(g)
	for _, row := range x {
		slices.Reverse(row)
	}
	return x
}

func invertedOf(g [][]int) [][]int {
	return fill(len(g), len(g[0]), func(i int) int { return 99 - heightsOf(g)[i] })
}

func landLine(g [][]int, level int) string {
	return spaced([]int{countLand(g, level), len(regionsOf(g, level)), lakesOf(g, level)})
}

func peaksLine(g [][]int) string {
	var words []string
	for _, peak := range peaksOf(g) {
		words = append(words, fmt.Sprintf("%d:%d", peak, heightsOf(g)[peak]-keyOf(g, peak)))
	}
	return strings.Join(words, " ")
}

func seesLine(p []int, i, k int) string {
	if seesFrom(p, i, 0, k) {
		return "yes"
	}
	return "hidden"
}

// mapLines has no newline behind its last line.
func mapLines(list []impl.Label) string {
	return strings.TrimSuffix(spelledRows(list, answersOf(list).best), "\n")
}

var series = sync.OnceValue(namesOfSeries)

func placeLine(x, y int) string {
	if x > 103 || y > 103 {
		return "no"
	}
	return series().places[y][x]
}

// words has each word of the chapter but grid, with how many numbers follow it.
func words() map[string]int {
	return map[string]int{
		"set": 3, "turn": 0, "mirror": 0, "invert": 0, "fill": 0, "show": 0, "run": 2, "land": 1,
		"peaks": 0, "sees": 3, "name": 4, "map": 0, "place": 2,
	}
}

// wordList has the words of the chapter, grid among them, always in the same order.
func wordList() []string {
	list := []string{"grid"}
	for word := range words() {
		list = append(list, word)
	}
	slices.Sort(list)
	return list
}

// gridLine gives a grid its text.
func gridLine(g [][]int) string {
	return "grid " + spell(g)
}

func nameLine(s impl.Label) string {
	return "name " + spaced([]int{s.X, s.Y, s.Width, s.Weight})
}

func nameLines(list []impl.Label) []string {
	var lines []string
	for _, s := range list {
		lines = append(lines, nameLine(s))
	}
	return lines
}

// fineLines has lines that do what they ask for, of a grid of two rows and three columns at least.
func fineLines() []string {
	return []string{
		"grid 07 12 30/99 00 05", "grid 05 05 05/05 01 04/05 05 05", "grid 09 09 09 09/09 03 01 09/09 09 09 08", "grid " + spell(mixed(3, 7)),
		"set 0 0 50", "set 1 1 00", "set 1 2 099", "set 000 01 7", "turn", "mirror", "invert", "fill", "show", "run 0 0", "run 1 2", "run 01 000",
		"land 0", "land 5", "land 09", "land 099", "peaks", "sees 0 0 2", "sees 1 2 0", "sees 0 1 1", "sees 001 0 1",
		"name 0 0 5 9", "name 9 9 5 1", "name 4 4 1 5", "name 5 04 003 5", "name 4 5 3 5", "name 9 0 4 2", "map", "place 0 0", "place 47 10", "place 103 103",
	}
}

// badLines has lines that fail, and others that are none of the chapter, whatever the grid and the labels are.
func badLines() []string {
	return []string{
		"grid ", "grid  ", "grid 7", "grid 07 ", "grid 07/12 30", "grid 100", "grid -1", "grid  07", "grid 07\r", "grid x", "grid 07//12",
		"set 9 9 9", "set 7 0 5", "set 0 7 5", "set 0 0 100", "set 0 0 x", "set 0 0 ", "set 0  5", "set -1 0 5", "set 0000 0 5",
		"run 7 0", "run 0 7", "run x 0", "run 0 -1", "run 0 ", "land 100", "land 999", "land ", "land -1", "land 0005",
		"sees 7 0 0", "sees 0 7 0", "sees 0 0 7", "sees  0 0", "sees 0 0 +1", "name 10 0 1 1", "name 0 10 1 1", "name 8 8 0 1", "name 8 8 6 1", "name 8 8 1 0",
		"name 8 8 1 10", "name 8 8 1 ", "name x 8 1 1", "place 104 0", "place 0 104", "place 999 999", "place x 0", "place 0 ", "place 0 0000",
		"", " ", "  ", "grid", "set", "set 0 0", "set 0 0 0 0", "turn ", "turn 1", " turn", "mirror 0", "invert 0", "fill 0", "show 0", "show  ", "run 0", "run 0 0 0", "run  0 0",
		"land", "land 1 1", "peaks 1", "sees 0 0", "sees 0 0 0 0", "name 0 0 1", "name 0 0 1 1 1", "map 0", "map ", "place 0", "place 0 0 0",
		"zzz", "Show", "SHOW", "shows", "sho", "show\r", "show\x00", "\x00", "\ufeffshow", "ok", "no", "what", "rows 1", "\xff", "gridd", "grid07", "set0 0 0", "too long",
	}
}

// randomScript has lines of both kinds; another seed makes another one.
func randomScript(seed, most int) string {
	next := uint32(seed)*2654435761 + 12345
	random := func(few int) int {
		next = next*1664525 + 1013904223
		return int(next>>16) % few
	}
	fine, bad := fineLines(), badLines()
	text := script(fine[random(4)])
	for {
		line := fine[random(len(fine))]
		if random(4) == 0 {
			line = bad[random(len(bad))]
		}
		if len(text)+len(line)+1 > most {
			return text
		}
		text += line + "\n"
	}
}

// sampleScripts has scripts of complete lines, up to MaxScript bytes.
func sampleScripts() []string {
	all := []string{
		"", "\n", "\n\n", " \n", "show\n", strings.Repeat("show\n", 120), strings.Repeat("\n", 600), strings.Repeat("show\n", 116) + "\n", strings.Repeat("show\n", 117),
		strings.Repeat(" ", 599) + "\n", script(nameLines(labelRow(6))...), script(nameLines(corners(5))...) + "map\n", script(gridLine(mixed(7, 7)), "peaks", "show"),
		script(gridLine(mixed(7, 1)), "turn", "peaks"), script(badLines()[:40]...),
	}
	for _, line := range slices.Concat(fineLines(), badLines()) {
		all = append(all, script(line), script(gridLine(mixed(2, 5)), line), script(line, nameLine(label(2, 2, 1, 1)), line))
	}
	for seed := range 300 {
		all = append(all, randomScript(seed, 600-seed%40))
	}
	return all
}
