package tests

import (
	"slices"
	"testing"

	"loop.example/reliefmaps/impl"
)

// Promise 88: settings written out, with their weights, or -1 where there is none.
func TestSettingWeightByHand(t *testing.T) {
	wide := []impl.Label{label(0, 0, 3, 2), label(2, 0, 5, 5)}
	apart := []impl.Label{label(1, 1, 2, 3), label(6, 1, 2, 4)}
	for _, p := range []struct {
		name  string
		list  []impl.Label
		sides []int
		want  int
	}{
		{"no label", nil, nil, 0},
		{"one label, left out", wide[:1], []int{-1}, 0},
		{"one label", wide[:1], []int{0}, 2},
		{"off the map", wide[:1], []int{1}, -1},
		{"both left out", wide, []int{-1, -1}, 0},
		{"on a point, both set", wide, []int{0, 0}, -1},
		{"on the point of one that is left out", wide, []int{0, -1}, -1},
		{"one of them", wide, []int{-1, 0}, 5},
		{"both", wide, []int{3, 0}, 7},
		{"on each other at one place", wide, []int{3, 3}, -1},
		{"side by side", apart, []int{0, 1}, 7},
		{"around both", apart, []int{2, 3}, 7},
		{"each other's middle", []impl.Label{label(1, 1, 2, 3), label(5, 1, 2, 4)}, []int{0, 1}, -1},
		{"behind each other", []impl.Label{label(1, 1, 2, 3), label(3, 2, 2, 4)}, []int{0, 2}, -1},
		{"touching at the end", []impl.Label{label(1, 1, 2, 3), label(4, 2, 2, 4)}, []int{0, 2}, 7},
		{"touching below each other", []impl.Label{label(1, 1, 2, 3), label(2, 3, 2, 4)}, []int{0, 2}, 7},
		{"one on the other's point", []impl.Label{label(1, 1, 1, 3), label(2, 1, 1, 4)}, []int{0, 0}, -1},
		{"the other on the one's point", []impl.Label{label(1, 1, 1, 3), label(2, 1, 1, 4)}, []int{1, 1}, -1},
		{"up to the other's point", []impl.Label{label(1, 1, 1, 3), label(3, 1, 1, 4)}, []int{0, 0}, 7},
		{"same places from north and south", []impl.Label{label(4, 3, 3, 1), label(4, 5, 3, 9)}, []int{3, 2}, -1},
		{"in the corners", corners(5), []int{3, 1, 2, -1}, 6},
		{"along the borders", corners(4), []int{0, 1, 0, 1}, 10},
		{"one place too wide for this", corners(5), []int{0, 1, 0, -1}, -1},
		{"nothing but what is blocked", besidePoint(1), []int{-1, 0, 1, 2, 3}, 4},
		{"to the east of it", besidePoint(1), []int{0, -1, -1, -1, -1}, -1},
		{"to the west of it", besidePoint(1), []int{1, -1, -1, -1, -1}, -1},
		{"to the north of it", besidePoint(1), []int{2, -1, -1, -1, -1}, -1},
		{"to the south of it", besidePoint(1), []int{3, -1, -1, -1, -1}, -1},
	} {
		got, valid := impl.SettingWeight(p.list, p.sides), impl.SettingValid(p.list, p.sides)
		if got != p.want || valid != (p.want >= 0) {
			t.Errorf("%s: SettingWeight = %d, SettingValid = %v; want %d", p.name, got, valid, p.want)
		}
	}
}

// Promises 88 and 89: all lists of sides of all sample labels.
func TestSettings(t *testing.T) {
	for _, list := range sampleLabels() {
		for sides := range sidesOf(len(list)) {
			want := -1
			if isSettingOf(list, sides) {
				want = weightOf(list, sides)
			}
			got, valid := impl.SettingWeight(list, sides), impl.SettingValid(list, sides)
			if got != want || valid != (want >= 0) {
				t.Fatalf("SettingWeight of %v and %v = %d, SettingValid = %v; want %d", list, sides, got, valid, want)
			}
		}
	}
}

// Promise 88: two labels at all points.
func TestSettingsOfTwo(t *testing.T) {
	for a := range 100 {
		for b := range 100 {
			if a == b {
				continue
			}
			list := []impl.Label{label(a%10, a/10, 1+(a+b)%5, 1+b%9), label(b%10, b/10, 1+(a+2*b/10)%5, 1+a%9)}
			for sides := range sidesOf(2) {
				if got := impl.SettingValid(list, sides); got != isSettingOf(list, sides) {
					t.Fatalf("SettingValid of %v and %v = %v", list, sides, got)
				}
			}
		}
	}
}

// Promises 88 and 89: with a label left out a setting stays one, and is less by its weight; what is set has no place in common.
func TestSettingsWithOneLeftOut(t *testing.T) {
	for _, list := range smallSamples(5) {
		best := impl.SettingWeight(list, settingBest(t, list))
		all := weightOf(list, slices.Repeat([]int{0}, len(list)))
		for sides := range sidesOf(len(list)) {
			weight := impl.SettingWeight(list, sides)
			if weight == -1 {
				continue
			}
			if weight > best || weight > all {
				t.Fatalf("SettingWeight of %v and %v = %d; the best weighs %d, all %d", list, sides, weight, best, all)
			}
			checkLeftOut(t, list, sides, weight)
			checkApart(t, list, sides)
		}
	}
}

func checkLeftOut(t *testing.T, list []impl.Label, sides []int, weight int) {
	t.Helper()
	for k, s := range list {
		less := weight
		if sides[k] != -1 {
			less -= s.Weight
		}
		if got := impl.SettingWeight(list, with(sides, k, -1)); got != less {
			t.Fatalf("SettingWeight of %v and %v without %d = %d; want %d", list, sides, k, got, less)
		}
	}
}

// checkApart takes the places from LabelPlaces.
func checkApart(t *testing.T, list []impl.Label, sides []int) {
	t.Helper()
	taken := map[int]bool{}
	for _, s := range list {
		taken[10*s.Y+s.X] = true
	}
	for k, s := range list {
		if sides[k] == -1 {
			continue
		}
		places, ok := impl.LabelPlaces(s, sides[k])
		if !ok {
			t.Fatalf("LabelPlaces of %v and %d failed", s, sides[k])
		}
		for _, i := range places {
			if taken[i] {
				t.Fatalf("%v and %v have the place %d in common", list, sides, i)
			}
			taken[i] = true
		}
	}
}

// Promise 88: a side that is none, at each label.
func TestSettingsWithNoSide(t *testing.T) {
	for _, list := range sampleLabels() {
		for k := range list {
			for _, side := range noSides() {
				for _, sides := range [][]int{with(noneSet(list), k, side), with(settingBest(t, list), k, side)} {
					wantNoSetting(t, list, sides)
				}
			}
		}
	}
}

// Promise 88: lists of sides that are too short or too long.
func TestSettingsOfAnotherLength(t *testing.T) {
	for _, list := range sampleLabels() {
		none, best := noneSet(list), settingBest(t, list)
		for _, sides := range [][]int{append(noneSet(list), -1), append(slices.Clone(best), -1), append(slices.Clone(best), 0), slices.Repeat([]int{-1}, 7), slices.Repeat([]int{-1}, 100000)} {
			wantNoSetting(t, list, sides)
		}
		for few := range list {
			wantNoSetting(t, list, none[:few])
			wantNoSetting(t, list, best[:few])
		}
	}
}

func wantNoSetting(t *testing.T, list []impl.Label, sides []int) {
	t.Helper()
	if impl.SettingValid(list, sides) || impl.SettingWeight(list, sides) != -1 || impl.SettingText(list, sides) != "" {
		t.Errorf("%v has a setting %v", list, sides[:min(len(sides), 8)])
	}
}
