package tests

import (
	"slices"
	"testing"

	"loop.example/reliefmaps/impl"
)

// Promise 86: lists that are labels.
func TestLabelsValidByHand(t *testing.T) {
	for name, list := range map[string][]impl.Label{
		"no label at all":              {},
		"nil":                          nil,
		"one label":                    {label(3, 4, 2, 5)},
		"the narrowest and lightest":   {label(3, 4, 1, 1)},
		"the widest and heaviest":      {label(3, 4, 5, 9)},
		"the north-west":               {label(0, 0, 1, 1)},
		"the south-east":               {label(9, 9, 5, 9)},
		"all corners":                  corners(5),
		"one row":                      {label(3, 4, 1, 1), label(4, 4, 1, 1)},
		"one column":                   {label(3, 4, 1, 1), label(3, 5, 1, 1)},
		"exchanged coordinates":        {label(3, 4, 1, 1), label(4, 3, 1, 1)},
		"six labels":                   labelRow(6),
		"six labels that cover points": {label(0, 1, 5, 9), label(1, 1, 5, 9), label(2, 1, 5, 9), label(3, 1, 5, 9), label(4, 1, 5, 9), label(5, 1, 5, 9)},
		"six labels of one kind":       {label(0, 0, 2, 2), label(0, 9, 2, 2), label(9, 0, 2, 2), label(9, 9, 2, 2), label(0, 5, 2, 2), label(5, 0, 2, 2)},
	} {
		if !impl.LabelsValid(list) {
			t.Errorf("%s are no labels", name)
		}
	}
}

// Promise 86: what is no list of labels is refused by all functions.
func TestNoLabels(t *testing.T) {
	for name, list := range noLabels() {
		if impl.LabelsValid(list) {
			t.Errorf("%s: labels", name)
		}
		for _, sides := range [][]int{noneSet(list), slices.Repeat([]int{0}, len(list)), slices.Repeat([]int{3}, len(list)), nil} {
			if impl.SettingValid(list, sides) || impl.SettingWeight(list, sides) != -1 || impl.SettingText(list, sides) != "" {
				t.Errorf("%s: a setting", name)
			}
		}
		if many, most := impl.SettingMany(list), impl.SettingMost(list); many != -1 || most != -1 {
			t.Errorf("%s: SettingMany = %d, SettingMost = %d", name, many, most)
		}
		greedy, ok := impl.SettingGreedy(list)
		wantNoList(t, "SettingGreedy of "+name, greedy, ok)
		best, ok := impl.SettingBest(list)
		wantNoList(t, "SettingBest of "+name, best, ok)
		turned, ok := impl.LabelsFlip(list)
		wantNoLabels(t, "LabelsFlip of "+name, turned, ok)
		for _, k := range []int{-1, 0, len(list) - 1, len(list)} {
			fewer, ok := impl.LabelsDrop(list, k)
			wantNoLabels(t, "LabelsDrop of "+name, fewer, ok)
		}
		for side := range 4 {
			if len(list) == 1 {
				places, ok := impl.LabelPlaces(list[0], side)
				wantNoList(t, "LabelPlaces of "+name, places, ok)
			}
		}
	}
}

// Promise 86: each field up to its limits.
func TestLabelsValidLimits(t *testing.T) {
	for _, n := range oddNumbers() {
		isCoordinate, isWidth, isWeight := 0 <= n && n <= 9, 1 <= n && n <= 5, 1 <= n && n <= 9
		for _, p := range []struct {
			s    impl.Label
			want bool
		}{
			{label(n, 5, 1, 1), isCoordinate},
			{label(5, n, 1, 1), isCoordinate},
			{label(5, 5, n, 1), isWidth},
			{label(5, 5, 1, n), isWeight},
		} {
			if got := impl.LabelsValid([]impl.Label{p.s}); got != p.want {
				t.Errorf("LabelsValid of %v = %v", p.s, got)
			}
			if got := impl.LabelsValid([]impl.Label{label(0, 0, 1, 1), p.s}); got != p.want {
				t.Errorf("LabelsValid of %v behind another one = %v", p.s, got)
			}
			if _, ok := impl.LabelPlaces(p.s, 0); ok && !p.want {
				t.Errorf("LabelPlaces of %v succeeded", p.s)
			}
		}
	}
}

// Promise 86: the first labels alone, a label twice, and no label set.
func TestLabelsValid(t *testing.T) {
	for _, list := range sampleLabels() {
		if !impl.LabelsValid(list) {
			t.Errorf("%v are no labels", list)
		}
		for few := range list {
			if !impl.LabelsValid(list[:few]) {
				t.Errorf("%v are no labels", list[:few])
			}
		}
		for k, s := range list {
			wider := label(s.X, s.Y, s.Width%5+1, s.Weight%9+1)
			for _, twice := range [][]impl.Label{
				slices.Insert(slices.Clone(list), 0, s), append(slices.Clone(list), s), append(slices.Clone(list), wider), slices.Insert(slices.Clone(list), k, wider),
			} {
				if impl.LabelsValid(twice) {
					t.Errorf("%v are labels", twice)
				}
			}
		}
		none := noneSet(list)
		if !impl.SettingValid(list, none) || impl.SettingWeight(list, none) != 0 {
			t.Errorf("leaving all of %v out weighs %d", list, impl.SettingWeight(list, none))
		}
	}
}

// Promise 86: each point may have a label, and two points may.
func TestLabelsValidPoints(t *testing.T) {
	for a := range 100 {
		for b := range 100 {
			list := []impl.Label{label(a%10, a/10, 1+a%5, 1+b%9), label(b%10, b/10, 1+b%5, 1+a%9)}
			if got := impl.LabelsValid(list); got != (a != b) {
				t.Fatalf("LabelsValid of %v = %v", list, got)
			}
		}
	}
}

// Promise 87: places written out.
func TestLabelPlacesByHand(t *testing.T) {
	for _, p := range []struct {
		s    impl.Label
		side int
		want []int
	}{
		{label(4, 4, 1, 1), 0, []int{45}},
		{label(4, 4, 1, 1), 1, []int{43}},
		{label(4, 4, 1, 1), 2, []int{34}},
		{label(4, 4, 1, 1), 3, []int{54}},
		{label(4, 4, 3, 1), 0, []int{45, 46, 47}},
		{label(4, 4, 3, 1), 1, []int{41, 42, 43}},
		{label(4, 4, 3, 1), 2, []int{34, 35, 36}},
		{label(4, 4, 3, 1), 3, []int{54, 55, 56}},
		{label(4, 4, 5, 9), 0, []int{45, 46, 47, 48, 49}},
		{label(5, 4, 5, 9), 1, []int{40, 41, 42, 43, 44}},
		{label(5, 1, 5, 9), 2, []int{5, 6, 7, 8, 9}},
		{label(5, 8, 5, 9), 3, []int{95, 96, 97, 98, 99}},
		{label(0, 0, 5, 9), 0, []int{1, 2, 3, 4, 5}},
		{label(9, 0, 5, 9), 1, []int{4, 5, 6, 7, 8}},
		{label(0, 9, 5, 9), 2, []int{80, 81, 82, 83, 84}},
		{label(0, 0, 5, 9), 3, []int{10, 11, 12, 13, 14}},
		{label(9, 9, 1, 1), 2, []int{89}},
		{label(9, 0, 1, 1), 3, []int{19}},
		{label(8, 9, 1, 1), 0, []int{99}},
		{label(1, 0, 1, 1), 1, []int{0}},
	} {
		got, ok := impl.LabelPlaces(p.s, p.side)
		if !ok || !slices.Equal(got, p.want) {
			t.Errorf("LabelPlaces of %v and %d returned %v, %v; want %v", p.s, p.side, got, ok, p.want)
		}
	}
}

// Promise 87: one place past the border on all four sides.
func TestLabelPlacesPastTheBorder(t *testing.T) {
	for _, p := range []struct {
		s    impl.Label
		side int
	}{
		{label(5, 4, 5, 1), 0},
		{label(9, 4, 1, 1), 0},
		{label(9, 9, 1, 1), 0},
		{label(7, 4, 3, 1), 0},
		{label(4, 4, 5, 1), 1},
		{label(0, 4, 1, 1), 1},
		{label(0, 0, 1, 1), 1},
		{label(2, 4, 3, 1), 1},
		{label(4, 0, 1, 1), 2},
		{label(0, 0, 5, 1), 2},
		{label(6, 4, 5, 1), 2},
		{label(9, 4, 2, 1), 2},
		{label(4, 9, 1, 1), 3},
		{label(0, 9, 5, 1), 3},
		{label(6, 4, 5, 1), 3},
		{label(9, 4, 2, 1), 3},
	} {
		got, ok := impl.LabelPlaces(p.s, p.side)
		wantNoList(t, "LabelPlaces", got, ok)
		if list := []impl.Label{p.s}; impl.SettingValid(list, []int{p.side}) {
			t.Errorf("%v is set at %d", p.s, p.side)
		}
	}
}

// Promise 87: all labels at all sides.
func TestLabelPlaces(t *testing.T) {
	for i := range 100 {
		for width := 1; width <= 5; width++ {
			for side := range 4 {
				checkLabelPlaces(t, label(i%10, i/10, width, 1+i%9), side)
			}
		}
	}
}

func checkLabelPlaces(t *testing.T, s impl.Label, side int) {
	t.Helper()
	var want []int
	for _, p := range coveredBy(s, side) {
		want = append(want, 10*p.y+p.x)
	}
	slices.Sort(want)
	isOn := !slices.ContainsFunc(coveredBy(s, side), func(p mapPlace) bool { return !onMap(p) })
	got, ok := impl.LabelPlaces(s, side)
	if ok != isOn || ok && !slices.Equal(got, want) || !ok && len(got) != 0 {
		t.Fatalf("LabelPlaces of %v and %d returned %v, %v; want %v, %v", s, side, got, ok, want, isOn)
	}
	if alone := []impl.Label{s}; impl.SettingValid(alone, []int{side}) != ok {
		t.Fatalf("%v is set at %d: %v", s, side, !ok)
	}
	if !ok {
		return
	}
	inOneRow := got[0]/10 == got[len(got)-1]/10 && got[len(got)-1]-got[0] == s.Width-1
	if len(got) != s.Width || !inOneRow || slices.Contains(got, 10*s.Y+s.X) {
		t.Fatalf("LabelPlaces of %v and %d returned %v", s, side, got)
	}
}

// Promise 87: no sides, also where numbers of 32 bits or less would be some, and also -1.
func TestLabelPlacesAtNoSide(t *testing.T) {
	for _, side := range append(noSides(), -1) {
		for _, s := range []impl.Label{label(4, 4, 1, 1), label(0, 0, 5, 9), label(9, 9, 3, 2)} {
			got, ok := impl.LabelPlaces(s, side)
			wantNoList(t, "LabelPlaces", got, ok)
		}
	}
}

// Promise 95: all but the one.
func TestLabelsDropByHand(t *testing.T) {
	list := []impl.Label{label(1, 2, 3, 4), label(5, 6, 1, 8), label(9, 0, 2, 3)}
	for k, want := range [][]impl.Label{{list[1], list[2]}, {list[0], list[2]}, {list[0], list[1]}} {
		if got := dropped(t, list, k); !slices.Equal(got, want) {
			t.Errorf("LabelsDrop of %v and %d returned %v; want %v", list, k, got, want)
		}
	}
	if got := dropped(t, list[:1], 0); len(got) != 0 {
		t.Errorf("LabelsDrop of one label returned %v", got)
	}
}

// Promise 95: indexes past both ends.
func TestLabelsDropFails(t *testing.T) {
	for _, list := range sampleLabels() {
		for _, k := range append(noSides(), -1, len(list), len(list)+1, -len(list)) {
			if 0 <= k && k < len(list) {
				continue
			}
			got, ok := impl.LabelsDrop(list, k)
			wantNoLabels(t, "LabelsDrop", got, ok)
		}
	}
}

// Promise 95: without a label the others have what they had.
func TestLabelsDrop(t *testing.T) {
	for _, list := range sampleLabels() {
		best, most := settingBest(t, list), impl.SettingMost(list)
		for k := range list {
			others := dropped(t, list, k)
			if want := append(slices.Clone(list[:k]), list[k+1:]...); !slices.Equal(others, want) {
				t.Fatalf("LabelsDrop of %v and %d returned %v", list, k, others)
			}
			if !impl.SettingValid(others, without(best, k)) || impl.SettingMost(others) < most-1 {
				t.Fatalf("%v has the best setting %v; without %d at most %d of %d are set", list, best, k, impl.SettingMost(others), most)
			}
		}
	}
}

// Promise 96: flipped labels written out.
func TestLabelsFlipByHand(t *testing.T) {
	list := []impl.Label{label(0, 0, 1, 2), label(3, 9, 3, 4), label(5, 4, 5, 6), label(7, 5, 2, 8), label(9, 1, 4, 9)}
	want := []impl.Label{label(0, 9, 1, 2), label(3, 0, 3, 4), label(5, 5, 5, 6), label(7, 4, 2, 8), label(9, 8, 4, 9)}
	if got := flipped(t, list); !slices.Equal(got, want) {
		t.Errorf("LabelsFlip of %v returned %v; want %v", list, got, want)
	}
	if got := flipped(t, nil); len(got) != 0 {
		t.Errorf("LabelsFlip of no labels returned %v", got)
	}
}

// Promise 96: flipped twice, and with flipped settings.
func TestLabelsFlip(t *testing.T) {
	for _, a := range sampleAnswers() {
		other := flipped(t, a.list)
		for k, s := range a.list {
			if other[k] != label(s.X, 9-s.Y, s.Width, s.Weight) {
				t.Fatalf("LabelsFlip of %v returned %v", a.list, other)
			}
		}
		if again := flipped(t, other); !slices.Equal(again, a.list) {
			t.Fatalf("LabelsFlip twice of %v returned %v", a.list, again)
		}
		if many, most := impl.SettingMany(other), impl.SettingMost(other); many != a.many || most != a.most {
			t.Fatalf("%v has %d settings and %d set labels, flipped %d and %d", a.list, a.many, a.most, many, most)
		}
		sides := impl.SettingFlip(settingBest(t, a.list))
		if !impl.SettingValid(other, sides) || impl.SettingWeight(other, sides) != impl.SettingWeight(other, settingBest(t, other)) {
			t.Fatalf("%v has a setting %v that weighs %d", other, sides, impl.SettingWeight(other, sides))
		}
	}
}

// Promise 96: all sides, and lists of any length with any numbers.
func TestSettingFlip(t *testing.T) {
	for _, p := range []struct{ sides, want []int }{
		{nil, nil},
		{[]int{}, nil},
		{[]int{0}, []int{0}},
		{[]int{1}, []int{1}},
		{[]int{2}, []int{3}},
		{[]int{3}, []int{2}},
		{[]int{-1}, []int{-1}},
		{[]int{0, 1, 2, 3, -1}, []int{0, 1, 3, 2, -1}},
		{[]int{2, 2, 3, 3, 2, 3, 2, 3}, []int{3, 3, 2, 2, 3, 2, 3, 2}},
		{[]int{-2, -3, 4, 5, 6, 32, 23}, []int{-2, -3, 4, 5, 6, 32, 23}},
		{noSides(), noSides()},
		{slices.Repeat([]int{2, 7, 3, -9}, 50000), slices.Repeat([]int{3, 7, 2, -9}, 50000)},
	} {
		if got := impl.SettingFlip(p.sides); !slices.Equal(got, p.want) {
			t.Errorf("SettingFlip of %v returned %v", p.sides[:min(len(p.sides), 8)], got[:min(len(got), 8)])
		}
	}
}
