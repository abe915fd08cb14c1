package tests

import (
	"slices"
	"testing"

	"loop.example/reliefmaps/impl"
)

func TestSightLimits(t *testing.T) {
	if impl.ProfileMax != 20 || impl.EyeMax != 50 {
		t.Errorf("ProfileMax is %d, EyeMax is %d", impl.ProfileMax, impl.EyeMax)
	}
}

// Promises 50 to 61 begin with what a profile is.
func TestProfileValid(t *testing.T) {
	for _, p := range profiles() {
		if !impl.ProfileValid(p) {
			t.Errorf("ProfileValid(%v) is false", p)
		}
	}
	for name, bad := range badProfiles() {
		if impl.ProfileValid(bad) {
			t.Errorf("ProfileValid of %s is true", name)
		}
	}
	for points := range 45 {
		if got := impl.ProfileValid(flatLine(points, 7)); got != (points >= 1 && points <= 20) {
			t.Errorf("ProfileValid of %d points is %v", points, got)
		}
	}
}

// Promises 50 to 61: each height is looked at.
func TestProfileValidLooksAtEachHeight(t *testing.T) {
	for points := 1; points <= 20; points++ {
		for i := range points {
			for _, h := range []int{0, 99} {
				if p := with(flatLine(points, 50), i, h); !impl.ProfileValid(p) {
					t.Errorf("ProfileValid(%v) is false", p)
				}
			}
			for _, h := range noLevels() {
				if p := with(flatLine(points, 50), i, h); impl.ProfileValid(p) {
					t.Errorf("ProfileValid(%v) is true", p)
				}
			}
		}
	}
}

// Promise 58: profiles backwards, written out.
func TestProfileBackByHand(t *testing.T) {
	for _, x := range []struct{ p, want []int }{
		{[]int{5}, []int{5}},
		{[]int{0, 99}, []int{99, 0}},
		{[]int{3, 1, 4, 2, 5}, []int{5, 2, 4, 1, 3}},
		{[]int{7, 7, 8}, []int{8, 7, 7}},
		{[]int{0, 1, 2, 3, 4, 5, 6, 7, 8, 9, 10, 11, 12, 13, 14, 15, 16, 17, 18, 19}, []int{19, 18, 17, 16, 15, 14, 13, 12, 11, 10, 9, 8, 7, 6, 5, 4, 3, 2, 1, 0}},
	} {
		if got, ok := impl.ProfileBack(x.p); !ok || !slices.Equal(got, x.want) {
			t.Errorf("ProfileBack(%v) = %v, %v; want %v, true", x.p, got, ok, x.want)
		}
	}
}

// Promise 58.
func TestProfileBack(t *testing.T) {
	for _, p := range profiles() {
		got := back(t, p)
		for i := range p {
			if len(got) != len(p) || got[i] != p[len(p)-1-i] {
				t.Fatalf("ProfileBack(%v) = %v", p, got)
			}
		}
		if again := back(t, got); !slices.Equal(again, p) {
			t.Fatalf("ProfileBack(%v) = %v, and back again %v", p, got, again)
		}
		up, down, ok := impl.ProfileClimb(p)
		backUp, backDown, fine := impl.ProfileClimb(got)
		if !ok || !fine || up != backDown || down != backUp {
			t.Fatalf("ProfileClimb(%v) = %d, %d, and backwards %d, %d", p, up, down, backUp, backDown)
		}
	}
	for name, bad := range badProfiles() {
		got, ok := impl.ProfileBack(bad)
		wantNoList(t, "ProfileBack of "+name, got, ok)
	}
}

// Promise 59: tilted profiles written out; nil where there is none.
func TestProfileTiltByHand(t *testing.T) {
	for _, x := range []struct {
		p    []int
		k    int
		want []int
	}{
		{[]int{0, 0, 0}, 10, []int{0, 10, 20}},
		{[]int{20, 10, 0}, 10, []int{20, 20, 20}},
		{[]int{20, 20, 20}, -10, []int{20, 10, 0}},
		{[]int{3, 1, 4, 2, 5}, 0, []int{3, 1, 4, 2, 5}},
		{[]int{3, 1, 4, 2, 5}, 1, []int{3, 2, 6, 5, 9}},
		{[]int{3, 1, 4, 2, 5}, -1, nil},
		{[]int{3, 1, 4, 3, 5}, -1, []int{3, 0, 2, 0, 1}},
		{[]int{0}, -10, []int{0}},
		{[]int{99}, 10, []int{99}},
		{[]int{99, 98}, 1, []int{99, 99}},
		{[]int{99, 99}, 1, nil},
		{[]int{99, 0}, 10, []int{99, 10}},
		{[]int{0, 89}, 10, []int{0, 99}},
		{[]int{0, 90}, 10, nil},
		{[]int{0, 1}, -1, []int{0, 0}},
		{[]int{0, 0}, -1, nil},
		{[]int{99, 10}, -10, []int{99, 0}},
		{[]int{99, 9}, -10, nil},
		// Out of the heights in between only.
		{[]int{0, 99, 0}, 1, nil},
		{[]int{99, 0, 99}, -1, nil},
		{flatLine(10, 0), 10, []int{0, 10, 20, 30, 40, 50, 60, 70, 80, 90}},
		{flatLine(11, 0), 10, nil},
		{flatLine(10, 99), -10, []int{99, 89, 79, 69, 59, 49, 39, 29, 19, 9}},
		{flatLine(11, 99), -10, nil},
		{flatLine(20, 0), 5, rule(20, func(i int) int { return 5 * i })},
		{flatLine(20, 4), 5, rule(20, func(i int) int { return 4 + 5*i })},
		{flatLine(20, 5), 5, nil},
		{flatLine(20, 95), -5, rule(20, func(i int) int { return 95 - 5*i })},
		{flatLine(20, 94), -5, nil},
	} {
		got, ok := impl.ProfileTilt(x.p, x.k)
		if ok != (len(x.want) > 0) || !slices.Equal(got, x.want) {
			t.Errorf("ProfileTilt(%v, %d) = %v, %v; want %v", x.p, x.k, got, ok, x.want)
		}
	}
}

// Promise 59.
func TestProfileTilt(t *testing.T) {
	for _, p := range profiles() {
		for k := -10; k <= 10; k++ {
			want := rule(len(p), func(i int) int { return p[i] + i*k })
			got, ok := impl.ProfileTilt(p, k)
			if slices.Min(want) < 0 || slices.Max(want) > 99 {
				wantNoList(t, "ProfileTilt out of the heights", got, ok)
				continue
			}
			if !ok || !slices.Equal(got, want) {
				t.Fatalf("ProfileTilt(%v, %d) = %v, %v; want %v, true", p, k, got, ok, want)
			}
			if again, fine := impl.ProfileTilt(got, -k); !fine || !slices.Equal(again, p) {
				t.Fatalf("ProfileTilt(%v, %d) = %v leads back to %v, %v", p, k, got, again, fine)
			}
			if impl.ProfilePairs(got) != impl.ProfilePairs(p) {
				t.Fatalf("ProfilePairs(%v) = %d, but %d tilted by %d", p, impl.ProfilePairs(p), impl.ProfilePairs(got), k)
			}
			if !slices.Equal(hull(t, got), hull(t, p)) {
				t.Fatalf("ProfileHull(%v) = %v, but %v tilted by %d", p, hull(t, p), hull(t, got), k)
			}
		}
	}
}

// Promise 59: tilts that are none, also where no height would change, and lists that are no profile.
func TestProfileTiltRefuses(t *testing.T) {
	for _, p := range [][]int{{0}, {50}, {99}, {0, 99}, {50, 50}, flatLine(20, 50)} {
		for _, k := range append(oddNumbers(), -12, -11, 11, 12) {
			if k < -10 || k > 10 {
				got, ok := impl.ProfileTilt(p, k)
				wantNoList(t, "ProfileTilt too far", got, ok)
			}
		}
	}
	for name, bad := range badProfiles() {
		for _, k := range append(oddNumbers(), -10, 10) {
			got, ok := impl.ProfileTilt(bad, k)
			wantNoList(t, "ProfileTilt of "+name, got, ok)
		}
	}
	// The result would be a profile, but the list is none.
	got, ok := impl.ProfileTilt([]int{0, 100}, -1)
	wantNoList(t, "ProfileTilt down to the heights", got, ok)
	got, ok = impl.ProfileTilt([]int{0, -1}, 1)
	wantNoList(t, "ProfileTilt up to the heights", got, ok)
}

// Promise 60: rises and falls written out.
func TestProfileClimbByHand(t *testing.T) {
	for _, x := range []struct {
		p        []int
		up, down int
	}{
		{[]int{0}, 0, 0},
		{[]int{99}, 0, 0},
		{[]int{0, 99}, 99, 0},
		{[]int{99, 0}, 0, 99},
		{[]int{7, 7}, 0, 0},
		{[]int{3, 1, 4, 2, 5}, 6, 4},
		{[]int{5, 9, 5}, 4, 4},
		{[]int{5, 5, 9, 9, 3, 3}, 4, 6},
		{flatLine(20, 99), 0, 0},
		{rule(20, func(i int) int { return 5 * i }), 95, 0},
		{rule(20, func(i int) int { return 95 - 5*i }), 0, 95},
		// The greatest sums of all.
		{rule(20, func(i int) int { return 99 * (i % 2) }), 990, 891},
	} {
		if up, down, ok := impl.ProfileClimb(x.p); !ok || up != x.up || down != x.down {
			t.Errorf("ProfileClimb(%v) = %d, %d, %v; want %d, %d, true", x.p, up, down, ok, x.up, x.down)
		}
	}
}

// Promise 60.
func TestProfileClimb(t *testing.T) {
	for _, p := range profiles() {
		up, down, ok := impl.ProfileClimb(p)
		if !ok || up < 0 || down < 0 || up-down != p[len(p)-1]-p[0] {
			t.Fatalf("ProfileClimb(%v) = %d, %d, %v", p, up, down, ok)
		}
		steps := 0
		for i := range len(p) - 1 {
			steps += max(p[i]-p[i+1], p[i+1]-p[i])
		}
		if up+down != steps {
			t.Fatalf("ProfileClimb(%v) = %d, %d, but all steps together are %d", p, up, down, steps)
		}
		if (up+down == 0) != (slices.Min(p) == slices.Max(p)) {
			t.Fatalf("ProfileClimb(%v) = %d, %d", p, up, down)
		}
	}
	for name, bad := range badProfiles() {
		if up, down, ok := impl.ProfileClimb(bad); ok || up != 0 || down != 0 {
			t.Errorf("ProfileClimb of %s is %d, %d, %v", name, up, down, ok)
		}
	}
}

// Promise 61.
func TestProfileRow(t *testing.T) {
	for _, g := range sampleGrids() {
		for r := range g {
			got, ok := impl.ProfileRow(g, r)
			wantList(t, "ProfileRow", g, got, ok, g[r])
			if !impl.ProfileValid(got) {
				t.Fatalf("ProfileRow(%v, %d) = %v is no profile", g, r, got)
			}
			for c, h := range got {
				if h != impl.GridAt(g, r, c) {
					t.Fatalf("ProfileRow(%v, %d) = %v, but the cell %d has another height", g, r, got, c)
				}
			}
			other, fine := impl.ProfileRow(mirror(t, g), r)
			wantList(t, "ProfileRow of GridMirror", g, other, fine, back(t, got))
		}
	}
}

// Promise 61: rows that are not there, and lists that are no grid.
func TestProfileRowRefuses(t *testing.T) {
	for _, g := range mixedGrids() {
		for _, r := range append(oddNumbers(), len(g), len(g)+1) {
			if r < 0 || r >= len(g) {
				got, ok := impl.ProfileRow(g, r)
				wantNoList(t, "ProfileRow of a row that is not there", got, ok)
			}
		}
	}
	for name, bad := range badGrids() {
		for _, r := range oddNumbers() {
			got, ok := impl.ProfileRow(bad, r)
			wantNoList(t, "ProfileRow of "+name, got, ok)
		}
	}
}
