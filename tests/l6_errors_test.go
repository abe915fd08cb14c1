package tests

import (
	"slices"
	"testing"

	"loop.example/reliefmaps/impl"
)

func TestLinesLimits(t *testing.T) {
	if impl.ErrorMax != 99 {
		t.Errorf("ErrorMax is %d", impl.ErrorMax)
	}
}

// Promise 63: all lists of at most five numbers around the points of short profiles.
func TestThinValidOfAllLists(t *testing.T) {
	var check func(p, list []int)
	check = func(p, list []int) {
		if got := impl.ThinValid(p, list); got != isThinnedTo(len(p), list) {
			t.Errorf("ThinValid(%v, %v) = %v", p, list, got)
		}
		if len(list) < 5 {
			for j := -1; j <= len(p); j++ {
				check(p, slices.Concat(list, []int{j}))
			}
		}
	}
	for _, p := range [][]int{{7}, {7, 9}, {7, 0, 9}, {99, 9, 0, 9}} {
		check(p, nil)
	}
}

// Promise 63.
func TestThinValid(t *testing.T) {
	atEachThinning(func(p, list []int) {
		if !impl.ThinValid(p, list) {
			t.Fatalf("ThinValid(%v, %v) is false", p, list)
		}
		if got := impl.ThinError(p, list); !impl.ThinKeeps(p, list, got) {
			t.Fatalf("ThinError(%v, %v) = %d, but it is not kept", p, list, got)
		}
	})
	for _, p := range profiles() {
		ends := slices.Compact([]int{0, len(p) - 1})
		if !impl.ThinValid(p, ends) {
			t.Errorf("ThinValid(%v, %v) is false", p, ends)
		}
		if got := impl.ThinError(p, allPoints(len(p))); got != 0 {
			t.Errorf("ThinError(%v) of all points is %d", p, got)
		}
	}
}

// Promises 63 to 65: lists that are no profile, and lists to which it is not thinned.
func TestThinErrorsRefuse(t *testing.T) {
	atEachNoThinning(func(name string, p, list []int) {
		if impl.ThinValid(p, list) {
			t.Errorf("ThinValid of %s and %d points is true", name, len(p))
		}
		if got := impl.ThinError(p, list); got != -1 {
			t.Errorf("ThinError of %s and %d points is %d", name, len(p), got)
		}
		for _, e := range []int{-1, 0, 50, 99, 100} {
			if impl.ThinKeeps(p, list, e) {
				t.Errorf("ThinKeeps of %s, %d points and %d is true", name, len(p), e)
			}
		}
	})
}

// Promise 64: errors written out.
func TestThinErrorByHand(t *testing.T) {
	steep := []int{0, 3, 4, 9, 8}
	for _, x := range []struct {
		p, list []int
		want    int
	}{
		{[]int{0}, []int{0}, 0},
		{[]int{99}, []int{0}, 0},
		{[]int{0, 99}, []int{0, 1}, 0},
		{[]int{99, 0}, []int{0, 1}, 0},
		{[]int{5, 5}, []int{0, 1}, 0},
		{[]int{5, 5, 5}, []int{0, 2}, 0},
		{[]int{0, 1, 2}, []int{0, 2}, 0},
		{[]int{2, 1, 0}, []int{0, 2}, 0},
		// Whole distances, above the line and below it.
		{[]int{5, 6, 5}, []int{0, 2}, 1},
		{[]int{5, 4, 5}, []int{0, 2}, 1},
		{[]int{0, 3, 2}, []int{0, 2}, 2},
		{[]int{2, 3, 0}, []int{0, 2}, 2},
		{[]int{4, 0, 4}, []int{0, 2}, 4},
		// Halves and thirds are rounded up.
		{[]int{0, 1, 1}, []int{0, 2}, 1},
		{[]int{0, 0, 1}, []int{0, 2}, 1},
		{[]int{0, 2, 1}, []int{0, 2}, 2},
		{[]int{3, 0, 2}, []int{0, 2}, 3},
		{[]int{0, 0, 0, 1}, []int{0, 3}, 1},
		{[]int{0, 1, 1, 1}, []int{0, 3}, 1},
		{[]int{0, 2, 1, 1}, []int{0, 3}, 2},
		{[]int{0, 0, 2, 1}, []int{0, 3}, 2},
		{[]int{1, 0, 0, 0}, []int{0, 3}, 1},
		{[]int{3, 0, 0, 1}, []int{0, 3}, 3},
		// The greatest one of several.
		{[]int{5, 6, 8, 5}, []int{0, 3}, 3},
		{[]int{5, 8, 6, 5}, []int{0, 3}, 3},
		{[]int{5, 2, 6, 5}, []int{0, 3}, 3},
		{[]int{5, 9, 5, 7, 5}, []int{0, 2, 4}, 4},
		{[]int{5, 7, 5, 9, 5}, []int{0, 2, 4}, 4},
		{steep, []int{0, 4}, 3},
		{steep, []int{0, 1, 4}, 3},
		{steep, []int{0, 2, 4}, 3},
		{steep, []int{0, 3, 4}, 2},
		{steep, []int{0, 1, 2, 4}, 3},
		{steep, []int{0, 1, 3, 4}, 2},
		{steep, []int{0, 2, 3, 4}, 1},
		{steep, []int{0, 1, 2, 3, 4}, 0},
		// What is left has no error, wherever the line would be without it.
		{[]int{0, 99, 0}, []int{0, 1, 2}, 0},
		{[]int{0, 99, 0, 99}, []int{0, 1, 2, 3}, 0},
		{[]int{0, 99, 0}, []int{0, 2}, 99},
		{[]int{99, 0, 99}, []int{0, 2}, 99},
		{[]int{0, 99, 99}, []int{0, 2}, 50},
		{[]int{0, 0, 99}, []int{0, 2}, 50},
		{with(flatLine(20, 0), 10, 99), []int{0, 19}, 99},
		{with(flatLine(20, 0), 10, 99), []int{0, 10, 19}, 90},
		{with(flatLine(20, 99), 19, 0), []int{0, 19}, 94},
		{with(flatLine(20, 99), 0, 0), []int{0, 19}, 94},
		{rule(20, func(i int) int { return 5 * i }), []int{0, 19}, 0},
		{rule(20, func(i int) int { return 95 - 5*i }), []int{0, 19}, 0},
		{with(rule(20, func(i int) int { return 5 * i }), 10, 51), []int{0, 19}, 1},
		{with(rule(20, func(i int) int { return 95 - 5*i }), 10, 44), []int{0, 19}, 1},
		{flatLine(20, 99), allPoints(20), 0},
	} {
		if got := impl.ThinError(x.p, x.list); got != x.want {
			t.Errorf("ThinError(%v, %v) = %d, want %d", x.p, x.list, got, x.want)
		}
	}
}

// Promise 64.
func TestThinError(t *testing.T) {
	atEachThinning(func(p, list []int) {
		got := impl.ThinError(p, list)
		if want := errorOf(p, list); got != want || got > 99 {
			t.Fatalf("ThinError(%v, %v) = %d, want %d", p, list, got, want)
		}
		if !impl.ThinKeeps(p, list, got) || got > 0 && impl.ThinKeeps(p, list, got-1) {
			t.Fatalf("ThinError(%v, %v) = %d, but ThinKeeps does not begin there", p, list, got)
		}
		if other := impl.ThinError(back(t, p), fromBehind(len(p), list)); other != got {
			t.Fatalf("ThinError(%v, %v) = %d, but %d backwards", p, list, got, other)
		}
	})
}

// Promise 65.
func TestThinKeeps(t *testing.T) {
	for _, p := range fewerProfiles() {
		for _, list := range someThinnings(len(p)) {
			least := errorOf(p, list)
			for e := range 100 {
				got := impl.ThinKeeps(p, list, e)
				if got != (e >= least) {
					t.Fatalf("ThinKeeps(%v, %v, %d) = %v", p, list, e, got)
				}
			}
			if fewest := impl.ThinFewest(p, least); fewest > len(list) {
				t.Fatalf("ThinFewest(%v, %d) = %d, but %v keeps it", p, least, fewest, list)
			}
		}
	}
}

// Promise 65: errors out of the range are not kept, also where all points are left.
func TestThinKeepsRefusesErrors(t *testing.T) {
	for _, p := range [][]int{{0}, {0, 99}, {5, 5, 5}, {0, 99, 0}, flatLine(20, 7)} {
		for _, list := range someThinnings(len(p)) {
			for _, e := range noErrors() {
				if impl.ThinKeeps(p, list, e) {
					t.Errorf("ThinKeeps(%v, %v, %d) is true", p, list, e)
				}
			}
		}
	}
}
