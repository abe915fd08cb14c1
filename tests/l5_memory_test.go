package tests

import (
	"slices"
	"testing"

	"loop.example/reliefmaps/impl"
)

type profileCall struct {
	name string
	run  func(p []int) ([]int, bool)
}

// profileLists has the calls of the chapter that return a list.
func profileLists() []profileCall {
	return []profileCall{
		{"ProfileSeen of the first point", func(p []int) ([]int, bool) { return impl.ProfileSeen(p, 0), true }},
		{"ProfileSeen of the last point", func(p []int) ([]int, bool) { return impl.ProfileSeen(p, len(p)-1), true }},
		{"ProfileSeen of no point", func(p []int) ([]int, bool) { return impl.ProfileSeen(p, len(p)), true }},
		{"ProfileHull", impl.ProfileHull},
		{"ProfileBack", impl.ProfileBack},
		{"ProfileTilt by 0", func(p []int) ([]int, bool) { return impl.ProfileTilt(p, 0) }},
		{"ProfileTilt by 1", func(p []int) ([]int, bool) { return impl.ProfileTilt(p, 1) }},
		{"ProfileTilt by -10", func(p []int) ([]int, bool) { return impl.ProfileTilt(p, -10) }},
	}
}

// profileReaders has the calls of the chapter that return numbers.
func profileReaders() []profileCall {
	truth := func(is bool) int {
		if is {
			return 1
		}
		return 0
	}
	return []profileCall{
		{"ProfileValid", func(p []int) ([]int, bool) { return nil, impl.ProfileValid(p) }},
		{"ProfileSees", func(p []int) ([]int, bool) {
			return []int{truth(impl.ProfileSees(p, 0, len(p)-1)), truth(impl.ProfileSees(p, len(p)-1, 0))}, true
		}},
		{"ProfilePairs", func(p []int) ([]int, bool) { return []int{impl.ProfilePairs(p)}, true }},
		{"ProfileEye", func(p []int) ([]int, bool) {
			return []int{impl.ProfileEye(p, 0, len(p)-1), impl.ProfileEye(p, len(p)-1, 0)}, true
		}},
		{"ProfileBest", func(p []int) ([]int, bool) {
			x, ok := impl.ProfileBest(p)
			return []int{x}, ok
		}},
		{"ProfileWatch", func(p []int) ([]int, bool) { return []int{impl.ProfileWatch(p)}, true }},
		{"ProfileClimb", func(p []int) ([]int, bool) {
			up, down, ok := impl.ProfileClimb(p)
			return []int{up, down}, ok
		}},
	}
}

// longer returns a copy of a profile with room behind it, filled with marks.
func longer(p []int) []int {
	x := slices.Concat(p, []int{mark, mark, mark})
	return x[:len(p)]
}

// longerStays reports whether longer(p) is as it was made, up to these marks.
func longerStays(x, p []int) bool {
	return slices.Equal(x[:len(p)+3], slices.Concat(p, []int{mark, mark, mark}))
}

// Promises 51, 54, 55, 58 and 59.
func TestProfileListMemory(t *testing.T) {
	for _, call := range profileLists() {
		for _, p := range fewerProfiles() {
			x := longer(p)
			first, ok := call.run(x)
			kept := slices.Clone(first)
			second, _ := call.run(x)
			if !longerStays(x, p) {
				t.Fatalf("%s changed its argument %v", call.name, p)
			}
			for i := range first[:cap(first)] {
				first[:cap(first)][i] = mark - 1
			}
			if !longerStays(x, p) {
				t.Fatalf("%s of %v shares memory with its argument", call.name, p)
			}
			third, fine := call.run(x)
			if ok != fine || !slices.Equal(second, kept) || !slices.Equal(third, kept) {
				t.Fatalf("%s of %v shares memory with a later result", call.name, p)
			}
		}
	}
}

// Promises 50, 52, 53, 56, 57 and 60: what returns no list leaves its argument alone, and answers the same again.
func TestProfileReadersChangeNothing(t *testing.T) {
	for _, call := range profileReaders() {
		for _, p := range fewerProfiles() {
			x := longer(p)
			first, ok := call.run(x)
			if !longerStays(x, p) {
				t.Fatalf("%s changed its argument %v", call.name, p)
			}
			if again, fine := call.run(x); ok != fine || !slices.Equal(first, again) {
				t.Fatalf("%s of %v is %v, then %v", call.name, p, first, again)
			}
		}
	}
}

// Promises 61 and 62.
func TestSightGridMemory(t *testing.T) {
	for _, g := range append(sampleGrids(), shapes()...) {
		for _, r := range []int{0, len(g) / 2, len(g) - 1} {
			checkListMemory(t, listCall{"ProfileRow", func(g [][]int) ([]int, bool) { return impl.ProfileRow(g, r) }}, g)
		}
		x := roomy(g)
		first := impl.GridSees(x)
		if again := impl.GridSees(x); !roomyStays(x, g) || again != first {
			t.Fatalf("GridSees(%v) is %d, then %d, or changed its argument", g, first, again)
		}
	}
}

// Invalid arguments stay as they are.
func TestBadProfilesStay(t *testing.T) {
	for name, bad := range badProfiles() {
		x := longer(bad)
		for _, call := range append(profileLists(), profileReaders()...) {
			call.run(x)
		}
		if !longerStays(x, bad) {
			t.Errorf("%s changed", name)
		}
	}
	for name, bad := range badGrids() {
		x := roomy(bad)
		impl.ProfileRow(x, 0)
		impl.GridSees(x)
		if !roomyStays(x, bad) {
			t.Errorf("%s changed", name)
		}
	}
}
