package tests

import (
	"slices"
	"testing"

	"loop.example/reliefmaps/impl"
)

type nameCall struct {
	name string
	run  func(list []impl.Label, sides []int) ([]impl.Label, []int)
}

// nameCalls has the calls of the chapter; numbers are returned as lists.
func nameCalls() []nameCall {
	calls := []nameCall{
		{"LabelsValid", func(list []impl.Label, sides []int) ([]impl.Label, []int) {
			impl.LabelsValid(list)
			return nil, nil
		}},
		{"SettingValid", func(list []impl.Label, sides []int) ([]impl.Label, []int) {
			impl.SettingValid(list, sides)
			return nil, nil
		}},
		{"SettingWeight", func(list []impl.Label, sides []int) ([]impl.Label, []int) {
			return nil, []int{impl.SettingWeight(list, sides)}
		}},
		{"SettingGreedy", func(list []impl.Label, sides []int) ([]impl.Label, []int) {
			greedy, _ := impl.SettingGreedy(list)
			return nil, greedy
		}},
		{"SettingBest", func(list []impl.Label, sides []int) ([]impl.Label, []int) {
			best, _ := impl.SettingBest(list)
			return nil, best
		}},
		{"SettingMany", func(list []impl.Label, sides []int) ([]impl.Label, []int) {
			return nil, []int{impl.SettingMany(list)}
		}},
		{"SettingMost", func(list []impl.Label, sides []int) ([]impl.Label, []int) {
			return nil, []int{impl.SettingMost(list)}
		}},
		{"LabelsFlip", func(list []impl.Label, sides []int) ([]impl.Label, []int) {
			turned, _ := impl.LabelsFlip(list)
			return turned, nil
		}},
		{"SettingFlip", func(list []impl.Label, sides []int) ([]impl.Label, []int) {
			return nil, impl.SettingFlip(sides)
		}},
		{"SettingText", func(list []impl.Label, sides []int) ([]impl.Label, []int) {
			return nil, []int{len(impl.SettingText(list, sides))}
		}},
	}
	for k := range 7 {
		calls = append(calls, nameCall{"LabelsDrop", func(list []impl.Label, sides []int) ([]impl.Label, []int) {
			others, _ := impl.LabelsDrop(list, k)
			return others, nil
		}})
	}
	return calls
}

var markedLabel = label(mark, mark, mark, mark)

// longerLabels returns a copy of a list with room behind it, filled with marks.
func longerLabels(list []impl.Label) []impl.Label {
	x := slices.Concat(list, []impl.Label{markedLabel, markedLabel, markedLabel})
	return x[:len(list)]
}

// longerLabelsStay reports whether longerLabels(list) is as it was made, up to these marks.
func longerLabelsStay(x, list []impl.Label) bool {
	return slices.Equal(x[:len(list)+3], slices.Concat(list, []impl.Label{markedLabel, markedLabel, markedLabel}))
}

// checkNameMemory fails if a call changes its arguments, or if its results share memory with these or with later results.
func checkNameMemory(t *testing.T, call nameCall, list []impl.Label, sides []int) {
	t.Helper()
	x, y := longerLabels(list), longer(sides)
	labels, numbers := call.run(x, y)
	keptLabels, keptNumbers := slices.Clone(labels), slices.Clone(numbers)
	if !longerLabelsStay(x, list) || !longerStays(y, sides) {
		t.Fatalf("%s changed its arguments %v and %v", call.name, list, sides)
	}
	nextLabels, nextNumbers := call.run(x, y)
	for i := range labels[:cap(labels)] {
		labels[:cap(labels)][i] = impl.Label{}
	}
	for i := range numbers[:cap(numbers)] {
		numbers[:cap(numbers)][i] = mark - 1
	}
	if !longerLabelsStay(x, list) || !longerStays(y, sides) {
		t.Fatalf("%s of %v and %v shares memory with its arguments", call.name, list, sides)
	}
	lastLabels, lastNumbers := call.run(x, y)
	if !slices.Equal(nextLabels, keptLabels) || !slices.Equal(lastLabels, keptLabels) {
		t.Fatalf("%s of %v and %v is %v, then %v and %v", call.name, list, sides, keptLabels, nextLabels, lastLabels)
	}
	if !slices.Equal(nextNumbers, keptNumbers) || !slices.Equal(lastNumbers, keptNumbers) {
		t.Fatalf("%s of %v and %v is %v, then %v and %v", call.name, list, sides, keptNumbers, nextNumbers, lastNumbers)
	}
}

// Promises 86 to 97.
func TestNameMemory(t *testing.T) {
	for _, call := range nameCalls() {
		for _, a := range sampleAnswers() {
			checkNameMemory(t, call, a.list, a.best)
			checkNameMemory(t, call, a.list, noneSet(a.list))
			checkNameMemory(t, call, a.list, slices.Repeat([]int{3}, len(a.list)))
		}
	}
}

// Promises 86 to 97: invalid arguments stay as they are, too.
func TestNoLabelsStay(t *testing.T) {
	for _, call := range nameCalls() {
		for _, list := range noLabels() {
			checkNameMemory(t, call, list, noSides())
		}
		checkNameMemory(t, call, labelRow(6), noSides())
	}
}

// Promise 87: places are new each time.
func TestLabelPlacesMemory(t *testing.T) {
	for side := range 4 {
		s := label(4, 4, 4, 1)
		first, ok := impl.LabelPlaces(s, side)
		kept := slices.Clone(first)
		second, fine := impl.LabelPlaces(s, side)
		for i := range first[:cap(first)] {
			first[:cap(first)][i] = mark
		}
		third, _ := impl.LabelPlaces(s, side)
		if !ok || !fine || !slices.Equal(second, kept) || !slices.Equal(third, kept) {
			t.Errorf("LabelPlaces at %d is %v, then %v and %v", side, kept, second, third)
		}
	}
}
