package tests

import (
	"slices"
	"testing"

	"loop.example/reliefmaps/impl"
)

// Promises 54 and 55: hulls written out.
func TestProfileHullByHand(t *testing.T) {
	for _, x := range []struct{ p, want []int }{
		{[]int{0}, []int{0}},
		{[]int{99}, []int{0}},
		{[]int{5, 5}, []int{0, 1}},
		{[]int{0, 99}, []int{0, 1}},
		{[]int{99, 0}, []int{0, 1}},
		{[]int{5, 5, 5}, []int{0, 2}},
		{[]int{0, 1, 2}, []int{0, 2}},
		{[]int{2, 1, 0}, []int{0, 2}},
		{[]int{0, 2, 2}, []int{0, 1, 2}},
		{[]int{0, 0, 2}, []int{0, 2}},
		{[]int{1, 2, 1}, []int{0, 1, 2}},
		{[]int{1, 0, 1}, []int{0, 2}},
		{[]int{0, 9, 9, 0}, []int{0, 1, 2, 3}},
		{[]int{0, 9, 9, 9, 0}, []int{0, 1, 3, 4}},
		{[]int{3, 1, 4, 2, 5}, []int{0, 4}},
		{[]int{3, 1, 5, 2, 5}, []int{0, 2, 4}},
		// A point above some of the lines over it only.
		{[]int{0, 1, 3, 3}, []int{0, 2, 3}},
		{[]int{0, 1, 0, 2}, []int{0, 1, 3}},
		{[]int{9, 0, 5, 0, 9}, []int{0, 4}},
		{[]int{0, 3, 9, 3, 0}, []int{0, 2, 4}},
		{[]int{0, 5, 9, 5, 0}, []int{0, 1, 2, 3, 4}},
		{flatLine(20, 0), []int{0, 19}},
		{flatLine(20, 99), []int{0, 19}},
		{with(flatLine(20, 98), 9, 99), []int{0, 9, 19}},
		{with(rule(20, func(i int) int { return 5 * i }), 10, 51), []int{0, 10, 19}},
		{with(rule(20, func(i int) int { return 5 * i }), 10, 49), []int{0, 19}},
		{valley(20), []int{0, 19}},
		{hill(12), []int{0, 1, 2, 3, 4, 5, 6, 7, 8, 9, 10, 11}},
	} {
		if got, ok := impl.ProfileHull(x.p); !ok || !slices.Equal(got, x.want) {
			t.Errorf("ProfileHull(%v) = %v, %v; want %v, true", x.p, got, ok, x.want)
		}
	}
}

// Promise 54.
func TestProfileHull(t *testing.T) {
	for _, p := range profiles() {
		got := hull(t, p)
		if want := hullOf(p); !slices.Equal(got, want) {
			t.Fatalf("ProfileHull(%v) = %v, want %v", p, got, want)
		}
		if got[0] != 0 || got[len(got)-1] != len(p)-1 {
			t.Fatalf("ProfileHull(%v) = %v lacks an end", p, got)
		}
		for n := 1; n < len(got); n++ {
			i, k := got[n-1], got[n]
			if i >= k || !impl.ProfileSees(p, i, k) {
				t.Fatalf("ProfileHull(%v) = %v, but %d and %d do not see each other", p, got, i, k)
			}
			for j := i; j <= k; j++ {
				if float64(p[j]) > lineOver(i, p[i], k, p[k], j)+tiny {
					t.Fatalf("ProfileHull(%v) = %v, but %d lies above it", p, got, j)
				}
			}
			if n > 1 && (p[i]-p[got[n-2]])*(k-i) <= (p[k]-p[i])*(i-got[n-2]) {
				t.Fatalf("ProfileHull(%v) = %v, but its slopes do not fall at %d", p, got, i)
			}
		}
	}
}

// Promise 55.
func TestProfileHullBackAndLower(t *testing.T) {
	for _, p := range profiles() {
		got := hull(t, p)
		var other []int
		for _, i := range hull(t, back(t, p)) {
			other = append(other, len(p)-1-i)
		}
		slices.Reverse(other)
		if !slices.Equal(got, other) {
			t.Fatalf("ProfileHull(%v) = %v, but %v backwards", p, got, other)
		}
		for j := range p {
			if p[j] == 0 || slices.Contains(got, j) {
				continue
			}
			if x := hull(t, with(p, j, p[j]-1)); !slices.Equal(x, got) {
				t.Fatalf("ProfileHull(%v) = %v, but %v with %d lower", p, got, x, j)
			}
		}
	}
}

// Promises 54 and 55: lists that are no profile.
func TestProfileHullRefuses(t *testing.T) {
	for name, bad := range badProfiles() {
		got, ok := impl.ProfileHull(bad)
		wantNoList(t, "ProfileHull of "+name, got, ok)
	}
}
