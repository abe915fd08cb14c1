package tests

import (
	"slices"
	"testing"

	"loop.example/reliefmaps/impl"
)

// Promises 56 and 57: the best point and the number of watching points, written out.
func TestProfileBestAndWatchByHand(t *testing.T) {
	for _, x := range []struct {
		p           []int
		best, watch int
	}{
		{[]int{0}, 0, 1},
		{[]int{99}, 0, 1},
		{[]int{0, 99}, 0, 1},
		{[]int{99, 0}, 0, 1},
		{[]int{5, 5, 5}, 0, 1},
		{[]int{1, 2, 3}, 0, 1},
		{[]int{5, 6, 5}, 1, 1},
		{[]int{9, 0, 9}, 0, 1},
		{[]int{3, 1, 4, 2, 5}, 2, 1},
		// Two points see four points each, none sees all.
		{[]int{0, 9, 0, 9, 0}, 1, 2},
		{[]int{0, 1, 2, 0, 6}, 2, 1},
		// The last point sees most.
		{[]int{1, 2, 2, 1, 9}, 4, 1},
		{hill(4), 1, 2},
		{hill(6), 1, 2},
		{hill(7), 1, 3},
		{hill(9), 1, 3},
		{hill(10), 1, 4},
		{hill(12), 1, 4},
		{hill(13), 1, -1},
		{hill(20), 1, -1},
		{flatLine(12, 99), 0, 1},
		{flatLine(13, 99), 0, -1},
		{flatLine(20, 0), 0, -1},
		{valley(12), 0, 1},
		{valley(13), 0, -1},
		{with(flatLine(13, 50), 6, 51), 6, -1},
	} {
		if got, ok := impl.ProfileBest(x.p); !ok || got != x.best {
			t.Errorf("ProfileBest(%v) = %d, %v; want %d, true", x.p, got, ok, x.best)
		}
		if got := impl.ProfileWatch(x.p); got != x.watch {
			t.Errorf("ProfileWatch(%v) = %d, want %d", x.p, got, x.watch)
		}
	}
}

// Promise 56.
func TestProfileBest(t *testing.T) {
	for _, p := range profiles() {
		got := best(t, p)
		most := len(impl.ProfileSeen(p, got))
		for i := range p {
			if many := len(seenOf(p, i)); many > most || many == most && i < got {
				t.Fatalf("ProfileBest(%v) = %d sees %d, but %d sees %d", p, got, most, i, many)
			}
		}
		if len(p) <= 12 && (impl.ProfileWatch(p) == 1) != (most == len(p)) {
			t.Fatalf("ProfileBest(%v) = %d sees %d, but ProfileWatch is %d", p, got, most, impl.ProfileWatch(p))
		}
	}
	for name, bad := range badProfiles() {
		if got, ok := impl.ProfileBest(bad); ok || got != 0 {
			t.Errorf("ProfileBest of %s is %d, %v", name, got, ok)
		}
	}
}

// Promise 57.
func TestProfileWatch(t *testing.T) {
	for _, p := range profiles() {
		got := impl.ProfileWatch(p)
		if len(p) > 12 {
			if got != -1 {
				t.Fatalf("ProfileWatch(%v) = %d for %d points", p, got, len(p))
			}
			continue
		}
		if want := watchOf(p); got != want || got < 1 || got > (len(p)+2)/3 {
			t.Fatalf("ProfileWatch(%v) = %d, want %d", p, got, want)
		}
		if other := impl.ProfileWatch(back(t, p)); other != got {
			t.Fatalf("ProfileWatch(%v) = %d, but %d backwards", p, got, other)
		}
		if most := len(impl.ProfileSeen(p, best(t, p))); got*most < len(p) {
			t.Fatalf("ProfileWatch(%v) = %d, but the best point sees %d only", p, got, most)
		}
	}
	for name, bad := range badProfiles() {
		if got := impl.ProfileWatch(bad); got != -1 {
			t.Errorf("ProfileWatch of %s is %d", name, got)
		}
	}
}

// greedyWatch always takes the point that sees most of what is not seen yet.
func greedyWatch(p []int) int {
	var seen []int
	for many := 0; ; many++ {
		if len(seen) == len(p) {
			return many
		}
		var most []int
		for i := range p {
			more := slices.DeleteFunc(seenOf(p, i), func(k int) bool { return slices.Contains(seen, k) })
			if len(more) > len(most) {
				most = more
			}
		}
		seen = append(seen, most...)
	}
}

// Promise 57: profiles for which taking the best point first takes too many.
func TestProfileWatchIsLeast(t *testing.T) {
	less := 0
	for seed := range 400 {
		p := steps(1, 8+seed%5, 12, seed)[0]
		got := impl.ProfileWatch(p)
		if want := watchOf(p); got != want {
			t.Fatalf("ProfileWatch(%v) = %d, want %d", p, got, want)
		}
		if got < greedyWatch(p) {
			less++
		}
	}
	if less == 0 {
		t.Errorf("for no profile the best point first takes too many")
	}
}
