package tests

import (
	"iter"
	"math"
	"slices"
	"strconv"
	"sync"
	"testing"

	"loop.example/reliefmaps/impl"
)

// onMap reports whether a place lies on a map.
func onMap(p mapPlace) bool {
	return 0 <= p.x && p.x <= 9 && 0 <= p.y && p.y <= 9
}

func label(x, y, width, weight int) impl.Label {
	return impl.Label{X: x, Y: y, Width: width, Weight: weight}
}

func pointOf(s impl.Label) mapPlace {
	return mapPlace{s.X, s.Y}
}

// coveredBy goes from the point of a label to its places at a side, on the map or not.
func coveredBy(s impl.Label, side int) []mapPlace {
	p := pointOf(s)
	var places []mapPlace
	for step := 1; step <= s.Width; step++ {
		switch side {
		case 0:
			places = append(places, mapPlace{p.x + step, p.y})
		case 1:
			places = append(places, mapPlace{p.x - step, p.y})
		case 2:
			places = append(places, mapPlace{p.x + step - 1, p.y - 1})
		case 3:
			places = append(places, mapPlace{p.x + step - 1, p.y + 1})
		}
	}
	return places
}

// drawnSetting draws labels with sides of -1 to 3, or returns false if this is no setting of them.
func drawnSetting(list []impl.Label, sides []int) ([10][10]byte, bool) {
	var rows [10][10]byte
	for y := range rows {
		copy(rows[y][:], "..........")
	}
	for _, s := range list {
		rows[s.Y][s.X] = '*'
	}
	for k, side := range sides {
		for _, p := range coveredBy(list[k], side) {
			if !onMap(p) || rows[p.y][p.x] != '.' {
				return rows, false
			}
			rows[p.y][p.x] = "012345"[k]
		}
	}
	return rows, true
}

func isSettingOf(list []impl.Label, sides []int) bool {
	_, ok := drawnSetting(list, sides)
	return ok
}

// sidesOf has all lists of as many sides of -1 to 3; they share memory.
func sidesOf(many int) iter.Seq[[]int] {
	return func(yield func([]int) bool) {
		sides := slices.Repeat([]int{-1}, many)
		for {
			if !yield(sides) {
				return
			}
			k := slices.IndexFunc(sides, func(side int) bool { return side < 3 })
			if k < 0 {
				return
			}
			for j := range k {
				sides[j] = -1
			}
			sides[k]++
		}
	}
}

func noneSet(list []impl.Label) []int {
	return slices.Repeat([]int{-1}, len(list))
}

func weightOf(list []impl.Label, sides []int) int {
	sum := 0
	for k, s := range list {
		if sides[k] >= 0 {
			sum += s.Weight
		}
	}
	return sum
}

func manySet(sides []int) int {
	return len(slices.DeleteFunc(slices.Clone(sides), func(side int) bool { return side < 0 }))
}

// preferred reports whether, at the first label at which two settings differ, the first one has the lesser side, or the second one none.
func preferred(a, b []int) bool {
	for k := range a {
		if a[k] != b[k] {
			return b[k] == -1 || a[k] != -1 && a[k] < b[k]
		}
	}
	return false
}

// settingAnswers has what the document asks for, found by going through all lists of sides.
type settingAnswers struct {
	list       []impl.Label
	many, most int
	best       []int
	greedy     []int
}

func answersOf(list []impl.Label) settingAnswers {
	a := settingAnswers{list: list, best: noneSet(list), greedy: greedySettingOf(list)}
	for sides := range sidesOf(len(list)) {
		if !isSettingOf(list, sides) {
			continue
		}
		a.many++
		a.most = max(a.most, manySet(sides))
		more := weightOf(list, sides) - weightOf(list, a.best)
		if more > 0 || more == 0 && preferred(sides, a.best) {
			a.best = slices.Clone(sides)
		}
	}
	return a
}

// greedySettingOf takes, nine times, each label of the next lesser Weight.
func greedySettingOf(list []impl.Label) []int {
	sides := noneSet(list)
	for weight := 9; weight >= 1; weight-- {
		for k, s := range list {
			for side := 0; side <= 3 && s.Weight == weight && sides[k] == -1; side++ {
				if isSettingOf(list, with(sides, k, side)) {
					sides[k] = side
				}
			}
		}
	}
	return sides
}

// sampleAnswers are kept, since all tests ask for them.
var sampleAnswers = sync.OnceValue(func() []settingAnswers {
	var all []settingAnswers
	for _, list := range sampleLabels() {
		all = append(all, answersOf(list))
	}
	return all
})

// corners has a label in each corner, the first one in the north-west.
func corners(width int) []impl.Label {
	return []impl.Label{label(0, 0, width, 1), label(9, 0, width, 2), label(0, 9, width, 3), label(9, 9, width, 4)}
}

// crowd has labels in a part of the map, of all widths and of few weights; another seed makes others.
func crowd(many, west, north, cols, rows, seed int) []impl.Label {
	var list []impl.Label
	next := uint32(seed)*2654435761 + 12345
	random := func(few int) int {
		next = next*1664525 + 1013904223
		return int(next>>16) % few
	}
	for len(list) < many {
		s := label(west+random(cols), north+random(rows), 1+random(5), 1+random(1+seed%9))
		if !slices.ContainsFunc(list, func(other impl.Label) bool { return pointOf(other) == pointOf(s) }) {
			list = append(list, s)
		}
	}
	return list
}

// besidePoint has labels of width 1 around a label, which can be set at no side.
func besidePoint(width int) []impl.Label {
	return []impl.Label{
		label(5, 5, width, 9),
		label(6, 5, 1, 1), label(4, 5, 1, 1), label(5, 4, 1, 1), label(5, 6, 1, 1),
	}
}

// sampleLabels has labels of each number, near each other in all corners and at all sides of the map, in its middle and all over it.
func sampleLabels() [][]impl.Label {
	all := [][]impl.Label{{}, corners(1), corners(3), corners(4), corners(5), besidePoint(1), besidePoint(5)}
	for many := 1; many <= 6; many++ {
		for n, p := range [][4]int{
			{0, 0, 3, 3}, {7, 0, 3, 3}, {0, 7, 3, 3}, {7, 7, 3, 3}, {4, 4, 3, 2}, {2, 3, 6, 2}, {4, 2, 2, 6},
			{0, 0, 10, 1}, {0, 9, 10, 1}, {0, 0, 1, 10}, {9, 0, 1, 10}, {3, 4, 7, 1}, {0, 0, 10, 10}, {5, 3, 3, 2},
		} {
			for more := range 2 {
				all = append(all, crowd(many, p[0], p[1], p[2], p[3], 9*many+5*n+more))
			}
		}
	}
	return all
}

// smallSamples has those of them of at most so many labels.
func smallSamples(many int) [][]impl.Label {
	return slices.DeleteFunc(sampleLabels(), func(list []impl.Label) bool { return len(list) > many })
}

// noLabels has lists that are no labels.
func noLabels() map[string][]impl.Label {
	bad := map[string][]impl.Label{
		"two labels at one point":              {label(3, 4, 1, 1), label(3, 4, 2, 2)},
		"one label twice":                      {label(3, 4, 1, 1), label(3, 4, 1, 1)},
		"the first and the last at one point":  {label(3, 4, 1, 1), label(4, 4, 1, 1), label(5, 4, 1, 1), label(6, 4, 1, 1), label(7, 4, 1, 1), label(3, 4, 5, 9)},
		"both last ones at one point":          {label(3, 4, 1, 1), label(4, 4, 1, 1), label(5, 4, 1, 1), label(6, 4, 1, 1), label(7, 4, 1, 1), label(7, 4, 1, 1)},
		"both at the point in the north-west":  {label(0, 0, 1, 1), label(0, 0, 1, 1)},
		"both at the point in the south-east":  {label(9, 9, 1, 1), label(9, 9, 1, 1)},
		"seven labels":                         labelRow(7),
		"ten labels":                           labelRow(10),
		"six labels and the first one again":   append(labelRow(6), labelRow(1)...),
		"seven labels all over the map":        append(crowd(6, 0, 0, 9, 9, 1), label(9, 9, 1, 1)),
		"a hundred thousand labels":            slices.Repeat(labelRow(10), 10000),
		"nothing but zeros":                    {{}},
		"zeros behind a label":                 {label(3, 4, 1, 1), {}},
		"a hundred thousand labels of nothing": make([]impl.Label, 100000),
	}
	for _, n := range noCoordinatesOfMap() {
		bad["X = "+strconv.Itoa(n)] = []impl.Label{label(n, 4, 1, 1)}
		bad["Y = "+strconv.Itoa(n)] = []impl.Label{label(3, n, 1, 1)}
		bad["both coordinates = "+strconv.Itoa(n)] = []impl.Label{label(n, n, 1, 1)}
		bad["X of the last one = "+strconv.Itoa(n)] = append(labelRow(5), label(n, 4, 1, 1))
	}
	for _, n := range []int{math.MinInt, -1 << 32, -5, -1, 0, 6, 7, 9, 10, 257, 1<<32 + 1, math.MaxInt - 9, math.MaxInt} {
		bad["Width = "+strconv.Itoa(n)] = []impl.Label{label(3, 4, n, 1)}
		bad["Width of the last one = "+strconv.Itoa(n)] = append(labelRow(5), label(3, 4, n, 1))
	}
	for _, n := range []int{math.MinInt, -1 << 32, -9, -1, 0, 10, 11, 99, 257, 1<<32 + 1, math.MaxInt} {
		bad["Weight = "+strconv.Itoa(n)] = []impl.Label{label(3, 4, 1, n)}
		bad["Weight of the first one = "+strconv.Itoa(n)] = append([]impl.Label{label(3, 4, 1, n)}, labelRow(5)...)
	}
	return bad
}

// noCoordinatesOfMap has numbers that are no coordinate of a map.
func noCoordinatesOfMap() []int {
	return []int{math.MinInt, math.MinInt + 1, -1 << 32, -256, -10, -9, -5, -1, 10, 11, 15, 99, 100, 256, 1 << 32, math.MaxInt - 5, math.MaxInt - 1, math.MaxInt}
}

// labelRow has labels in the row 1, from the west on.
func labelRow(many int) []impl.Label {
	var list []impl.Label
	for x := range many {
		list = append(list, label(x, 1, 1, 1))
	}
	return list
}

// noSides has numbers that are no side, and not -1 either.
func noSides() []int {
	return []int{math.MinInt, math.MinInt + 1, -1 << 32, -1<<32 - 1, -256, -5, -4, -3, -2, 4, 5, 6, 7, 255, 256, 1 << 32, 1<<32 + 1, 1<<32 - 1, math.MaxInt - 1, math.MaxInt}
}

// These are for labels, with which the functions succeed.

func settingBest(t *testing.T, list []impl.Label) []int {
	t.Helper()
	sides, ok := impl.SettingBest(list)
	return settingFound(t, "SettingBest", list, sides, ok)
}

func settingGreedy(t *testing.T, list []impl.Label) []int {
	t.Helper()
	sides, ok := impl.SettingGreedy(list)
	return settingFound(t, "SettingGreedy", list, sides, ok)
}

func settingFound(t *testing.T, call string, list []impl.Label, sides []int, ok bool) []int {
	t.Helper()
	if !ok || len(sides) != len(list) {
		t.Fatalf("%s of %v returned %v, %v", call, list, sides, ok)
	}
	return sides
}

func flipped(t *testing.T, list []impl.Label) []impl.Label {
	t.Helper()
	x, ok := impl.LabelsFlip(list)
	if !ok || len(x) != len(list) {
		t.Fatalf("LabelsFlip of %v returned %v, %v", list, x, ok)
	}
	return x
}

func dropped(t *testing.T, list []impl.Label, k int) []impl.Label {
	t.Helper()
	x, ok := impl.LabelsDrop(list, k)
	if !ok || len(x) != len(list)-1 {
		t.Fatalf("LabelsDrop of %v and %d returned %v, %v", list, k, x, ok)
	}
	return x
}

// wantNoLabels fails unless a call failed, with the zero value.
func wantNoLabels(t *testing.T, call string, got []impl.Label, ok bool) {
	t.Helper()
	if ok || len(got) != 0 {
		t.Errorf("%s returned %v, %v; want none, false", call, got, ok)
	}
}
