package tests

import (
	"slices"
	"testing"

	"loop.example/reliefmaps/impl"
)

// Promises 90 to 94: answers written out.
func TestSettingsByHand(t *testing.T) {
	for _, p := range []struct {
		name       string
		list       []impl.Label
		greedy     []int
		best       []int
		many, most int
	}{
		{"no label", nil, nil, nil, 1, 0},
		{"one label in the middle", []impl.Label{label(4, 4, 4, 1)}, []int{0}, []int{0}, 5, 1},
		{"one label in the north-west", []impl.Label{label(0, 0, 5, 9)}, []int{0}, []int{0}, 3, 1},
		{"one label in the north-east", []impl.Label{label(9, 0, 5, 9)}, []int{1}, []int{1}, 2, 1},
		{"one narrow label in the north-east", []impl.Label{label(9, 0, 1, 9)}, []int{1}, []int{1}, 3, 1},
		{"one label in the south-west", []impl.Label{label(0, 9, 5, 9)}, []int{0}, []int{0}, 3, 1},
		{"one label in the south-east", []impl.Label{label(9, 9, 5, 9)}, []int{1}, []int{1}, 2, 1},
		{"one narrow label in the south-east", []impl.Label{label(9, 9, 1, 9)}, []int{1}, []int{1}, 3, 1},
		{"four corners", corners(4), []int{0, 1, 0, 1}, []int{0, 1, 0, 1}, 36, 4},
		{"four wide corners", corners(5), []int{3, 1, 2, 1}, []int{3, 1, 2, 1}, 25, 4},
		{"the heavy one is in the way", []impl.Label{label(3, 0, 5, 5), label(9, 0, 5, 4)}, []int{0, -1}, []int{3, 1}, 5, 2},
		{"the light one is in the way", []impl.Label{label(3, 0, 5, 4), label(9, 0, 5, 5)}, []int{3, 1}, []int{3, 1}, 5, 2},
		{"of equal weight, the first one is in the way", []impl.Label{label(3, 0, 5, 4), label(9, 0, 5, 4)}, []int{0, -1}, []int{3, 1}, 5, 2},
		{"of equal weight, the last one is in the way", []impl.Label{label(9, 0, 5, 4), label(3, 0, 5, 4)}, []int{1, 3}, []int{1, 3}, 5, 2},
		{"blocked at all sides", besidePoint(1), []int{-1, 0, 1, 0, 0}, []int{-1, 0, 1, 0, 0}, 194, 4},
	} {
		t.Run(p.name, func(t *testing.T) {
			checkAnswers(t, settingAnswers{list: p.list, greedy: p.greedy, best: p.best, many: p.many, most: p.most})
		})
	}
}

// Promises 90 to 94: by all lists of sides.
func TestSettingsOfSamples(t *testing.T) {
	for _, a := range sampleAnswers() {
		checkAnswers(t, a)
	}
}

func checkAnswers(t *testing.T, a settingAnswers) {
	t.Helper()
	if got := settingGreedy(t, a.list); !slices.Equal(got, a.greedy) {
		t.Errorf("SettingGreedy of %v returned %v; want %v", a.list, got, a.greedy)
	}
	if got := settingBest(t, a.list); !slices.Equal(got, a.best) {
		t.Errorf("SettingBest of %v returned %v; want %v", a.list, got, a.best)
	}
	if got := impl.SettingMany(a.list); got != a.many {
		t.Errorf("SettingMany of %v = %d; want %d", a.list, got, a.many)
	}
	if got := impl.SettingMost(a.list); got != a.most {
		t.Errorf("SettingMost of %v = %d; want %d", a.list, got, a.most)
	}
}

// Promise 90: a setting, and none that is left out can be set.
func TestSettingGreedy(t *testing.T) {
	for _, list := range sampleLabels() {
		greedy := settingGreedy(t, list)
		if !impl.SettingValid(list, greedy) {
			t.Fatalf("SettingGreedy of %v returned %v", list, greedy)
		}
		for k := range list {
			for side := range 4 {
				if greedy[k] == -1 && impl.SettingValid(list, with(greedy, k, side)) {
					t.Fatalf("SettingGreedy of %v returned %v, but %d can be set at %d", list, greedy, k, side)
				}
			}
		}
	}
}

// Promise 91: it weighs no less than the greedy one, and no label alone can be set better.
func TestSettingBest(t *testing.T) {
	for _, list := range sampleLabels() {
		best := settingBest(t, list)
		if weight := impl.SettingWeight(list, best); weight == -1 || weight < impl.SettingWeight(list, settingGreedy(t, list)) {
			t.Fatalf("SettingBest of %v returned %v, which weighs %d", list, best, weight)
		}
		for k := range list {
			for side := range 4 {
				if (best[k] == -1 || side < best[k]) && impl.SettingValid(list, with(best, k, side)) {
					t.Fatalf("SettingBest of %v returned %v, but %d can be set at %d", list, best, k, side)
				}
			}
		}
	}
}

// Promise 91: of several settings of the greatest weight, the lesser side at the first label comes first, also if later labels have greater ones, and any side ahead of -1.
func TestSettingBestOfSeveral(t *testing.T) {
	for _, p := range []struct {
		name string
		list []impl.Label
		want []int
	}{
		{"both to the east", []impl.Label{label(2, 2, 2, 3), label(2, 6, 2, 3)}, []int{0, 0}},
		{"the last one has to yield", []impl.Label{label(4, 4, 2, 3), label(8, 4, 2, 3)}, []int{0, 2}},
		{"the first one has to yield", []impl.Label{label(3, 0, 4, 3), label(9, 0, 5, 3)}, []int{3, 1}},
		{"the first one has to yield to the west", []impl.Label{label(4, 4, 2, 3), label(9, 4, 3, 3)}, []int{1, 1}},
		{"one of two, the first one", onlyOneOf(3, 3), []int{3, -1, 1, 1, 1, 0}},
		{"one of two, the heavier one", onlyOneOf(3, 4), []int{-1, 2, 1, 1, 1, 0}},
		{"one of two, the heavier one, which is the first one", onlyOneOf(4, 3), []int{3, -1, 1, 1, 1, 0}},
	} {
		if got := settingBest(t, p.list); !slices.Equal(got, p.want) {
			t.Errorf("%s: SettingBest returned %v; want %v", p.name, got, p.want)
		}
	}
}

// onlyOneOf has two labels first that can be set at one and the same place only, between their points, and four others in their way.
func onlyOneOf(weight, other int) []impl.Label {
	return []impl.Label{
		label(9, 0, 1, weight), label(9, 2, 1, other),
		label(8, 0, 1, 1), label(8, 2, 1, 1), label(9, 3, 1, 1), label(0, 9, 1, 1),
	}
}

// Promise 92: at least one, at most 5 to the power of the number of labels, more than one exactly if some label can be set alone.
func TestSettingMany(t *testing.T) {
	for _, list := range sampleLabels() {
		many, power, canSet := impl.SettingMany(list), 1, false
		for k := range list {
			power *= 5
			for side := range 4 {
				canSet = canSet || impl.SettingValid(list, with(noneSet(list), k, side))
			}
		}
		if many < 1 || many > power || many > 1 != canSet {
			t.Fatalf("SettingMany of %v = %d of %d; some label can be set alone: %v", list, many, power, canSet)
		}
	}
}

// Promise 92: labels far from each other and from the border have all settings.
func TestSettingManyOfAll(t *testing.T) {
	list := []impl.Label{label(1, 1, 1, 9), label(4, 1, 1, 9), label(7, 1, 1, 9), label(1, 4, 1, 9), label(4, 4, 1, 9), label(7, 4, 1, 9)}
	for few, want := range []int{1, 5, 25, 125, 625, 3125, 15625} {
		if got := impl.SettingMany(list[:few]); got != want {
			t.Errorf("SettingMany of %d labels = %d; want %d", few, got, want)
		}
		if got := impl.SettingMost(list[:few]); got != few {
			t.Errorf("SettingMost of %d labels = %d", few, got)
		}
	}
}

// Promise 93: by SettingValid, for at most 3 labels.
func TestSettingManyBySettingValid(t *testing.T) {
	for _, list := range smallSamples(3) {
		want := 0
		for sides := range sidesOf(len(list)) {
			if impl.SettingValid(list, sides) {
				want++
			}
		}
		if got := impl.SettingMany(list); got != want {
			t.Fatalf("SettingMany of %v = %d; want %d", list, got, want)
		}
	}
}

// Promise 94: as many as the best and the greedy setting set, and at most all.
func TestSettingMost(t *testing.T) {
	for _, list := range sampleLabels() {
		most := impl.SettingMost(list)
		if most < manySet(settingBest(t, list)) || most < manySet(settingGreedy(t, list)) || most > len(list) {
			t.Fatalf("SettingMost of %v = %d", list, most)
		}
	}
}

// Promise 94: a setting with more labels may be lighter than the best one.
func TestSettingMostIsNotTheBest(t *testing.T) {
	list := []impl.Label{label(9, 1, 5, 9), label(4, 0, 2, 1), label(7, 0, 2, 1), label(3, 0, 1, 1), label(5, 0, 1, 1), label(8, 0, 1, 1)}
	best, light := []int{1, -1, -1, 1, 0, 0}, []int{-1, 3, 3, 1, 0, 0}
	if got := settingBest(t, list); !slices.Equal(got, best) || impl.SettingWeight(list, best) != 12 {
		t.Errorf("SettingBest of %v returned %v; want %v", list, got, best)
	}
	if got := impl.SettingMost(list); got != 5 || impl.SettingWeight(list, light) != 5 {
		t.Errorf("SettingMost of %v = %d; want 5", list, got)
	}
}
