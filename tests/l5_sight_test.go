package tests

import (
	"slices"
	"testing"

	"loop.example/reliefmaps/impl"
)

// Promises 50 to 52: what each point sees, written out.
func TestProfileSeenByHand(t *testing.T) {
	for _, x := range []struct {
		p     []int
		seen  [][]int
		pairs int
	}{
		{[]int{0}, [][]int{{0}}, 0},
		{[]int{99}, [][]int{{0}}, 0},
		{[]int{0, 99}, [][]int{{0, 1}, {0, 1}}, 1},
		{[]int{5, 5}, [][]int{{0, 1}, {0, 1}}, 1},
		{[]int{5, 5, 5}, [][]int{{0, 1, 2}, {0, 1, 2}, {0, 1, 2}}, 3},
		{[]int{1, 2, 3}, [][]int{{0, 1, 2}, {0, 1, 2}, {0, 1, 2}}, 3},
		{[]int{3, 2, 1}, [][]int{{0, 1, 2}, {0, 1, 2}, {0, 1, 2}}, 3},
		{[]int{5, 6, 5}, [][]int{{0, 1}, {0, 1, 2}, {1, 2}}, 2},
		{[]int{5, 4, 5}, [][]int{{0, 1, 2}, {0, 1, 2}, {0, 1, 2}}, 3},
		// A half above the line, on it, and a half below it.
		{[]int{5, 6, 6}, [][]int{{0, 1}, {0, 1, 2}, {1, 2}}, 2},
		{[]int{4, 5, 6}, [][]int{{0, 1, 2}, {0, 1, 2}, {0, 1, 2}}, 3},
		{[]int{5, 5, 6}, [][]int{{0, 1, 2}, {0, 1, 2}, {0, 1, 2}}, 3},
		// A third above the line and a third below it.
		{[]int{0, 1, 0, 2}, [][]int{{0, 1}, {0, 1, 2, 3}, {1, 2, 3}, {1, 2, 3}}, 4},
		{[]int{0, 0, 1, 1}, [][]int{{0, 1, 2}, {0, 1, 2}, {0, 1, 2, 3}, {2, 3}}, 4},
		{[]int{0, 0, 0, 1}, [][]int{{0, 1, 2, 3}, {0, 1, 2, 3}, {0, 1, 2, 3}, {0, 1, 2, 3}}, 6},
		{[]int{3, 1, 4, 2, 5}, [][]int{{0, 1, 2, 4}, {0, 1, 2}, {0, 1, 2, 3, 4}, {2, 3, 4}, {0, 2, 3, 4}}, 7},
		{[]int{0, 9, 0, 9, 0}, [][]int{{0, 1}, {0, 1, 2, 3}, {1, 2, 3}, {1, 2, 3, 4}, {3, 4}}, 5},
		{[]int{0, 99, 0}, [][]int{{0, 1}, {0, 1, 2}, {1, 2}}, 2},
		{[]int{99, 0, 99}, [][]int{{0, 1, 2}, {0, 1, 2}, {0, 1, 2}}, 3},
	} {
		for i, want := range x.seen {
			if got := impl.ProfileSeen(x.p, i); !slices.Equal(got, want) {
				t.Errorf("ProfileSeen(%v, %d) = %v, want %v", x.p, i, got, want)
			}
			for k := range x.p {
				if got := impl.ProfileSees(x.p, i, k); got != slices.Contains(want, k) {
					t.Errorf("ProfileSees(%v, %d, %d) = %v", x.p, i, k, got)
				}
			}
		}
		if got := impl.ProfilePairs(x.p); got != x.pairs {
			t.Errorf("ProfilePairs(%v) = %d, want %d", x.p, got, x.pairs)
		}
	}
}

// Promise 50.
func TestProfileSees(t *testing.T) {
	for _, p := range profiles() {
		other := back(t, p)
		last := len(p) - 1
		for i := range p {
			for k := range p {
				got := impl.ProfileSees(p, i, k)
				if got != seesFrom(p, i, 0, k) || !got && max(i-k, k-i) <= 1 {
					t.Fatalf("ProfileSees(%v, %d, %d) = %v", p, i, k, got)
				}
				if impl.ProfileSees(p, k, i) != got || impl.ProfileSees(other, last-i, last-k) != got {
					t.Fatalf("ProfileSees(%v, %d, %d) = %v, but not exchanged or backwards", p, i, k, got)
				}
			}
		}
	}
}

// Promise 50: with a point between 1 lower.
func TestProfileSeesOverLowerPoints(t *testing.T) {
	for _, p := range fewerProfiles() {
		for i := range p {
			for k := i; k < len(p); k++ {
				if !impl.ProfileSees(p, i, k) {
					continue
				}
				for j := i + 1; j < k; j++ {
					if p[j] > 0 && !impl.ProfileSees(with(p, j, p[j]-1), i, k) {
						t.Fatalf("ProfileSees(%v, %d, %d), but not with %d lower", p, i, k, j)
					}
				}
			}
		}
	}
}

// Promises 50 and 52: on a straight line all points see each other. One just above it is in the way of all sights
// over it; one just below it sees its neighbors only.
func TestProfileSeesAlongLines(t *testing.T) {
	for _, p := range straight() {
		n := len(p)
		all := n * (n - 1) / 2
		if got := impl.ProfilePairs(p); got != all {
			t.Errorf("ProfilePairs(%v) = %d, want %d", p, got, all)
		}
		for j := range p {
			above, below := with(p, j, p[j]+1), with(p, j, p[j]-1)
			if got := impl.ProfilePairs(above); got != all-j*(n-1-j) {
				t.Errorf("ProfilePairs(%v) = %d, want %d", above, got, all-j*(n-1-j))
			}
			neighbors := min(j, 1) + min(n-1-j, 1)
			if got := impl.ProfilePairs(below); got != all-(n-1-neighbors) {
				t.Errorf("ProfilePairs(%v) = %d, want %d", below, got, all-(n-1-neighbors))
			}
			if got := impl.ProfileSeen(above, j); len(got) != n {
				t.Errorf("ProfileSeen(%v, %d) = %v", above, j, got)
			}
			if got := impl.ProfileSeen(below, j); len(got) != 1+neighbors {
				t.Errorf("ProfileSeen(%v, %d) = %v", below, j, got)
			}
		}
	}
}

// Promise 51.
func TestProfileSeen(t *testing.T) {
	for _, p := range profiles() {
		for i := range p {
			got := impl.ProfileSeen(p, i)
			if !slices.Equal(got, seenOf(p, i)) || !slices.IsSorted(got) {
				t.Fatalf("ProfileSeen(%v, %d) = %v, want %v", p, i, got, seenOf(p, i))
			}
			for k := range p {
				if slices.Contains(got, k) != impl.ProfileSees(p, i, k) {
					t.Fatalf("ProfileSeen(%v, %d) = %v, but ProfileSees of %d is another", p, i, got, k)
				}
				if max(i-k, k-i) <= 1 && !slices.Contains(got, k) {
					t.Fatalf("ProfileSeen(%v, %d) = %v lacks %d", p, i, got, k)
				}
			}
		}
	}
}

// Promise 52.
func TestProfilePairs(t *testing.T) {
	for _, p := range profiles() {
		got, sum := impl.ProfilePairs(p), 0
		for i := range p {
			sum += len(impl.ProfileSeen(p, i)) - 1
		}
		if got != pairsOf(p) || 2*got != sum || got < len(p)-1 {
			t.Fatalf("ProfilePairs(%v) = %d, want %d; all points see %d", p, got, pairsOf(p), sum)
		}
		if impl.ProfilePairs(back(t, p)) != got {
			t.Fatalf("ProfilePairs(%v) = %d, but not backwards", p, got)
		}
	}
	for points := 1; points <= 20; points++ {
		if got := impl.ProfilePairs(hill(points)); got != points-1 {
			t.Errorf("ProfilePairs of a hill of %d points is %d", points, got)
		}
		for _, p := range [][]int{valley(points), flatLine(points, 0), flatLine(points, 99)} {
			if got := impl.ProfilePairs(p); got != points*(points-1)/2 {
				t.Errorf("ProfilePairs(%v) = %d", p, got)
			}
		}
	}
	for name, bad := range badProfiles() {
		if got := impl.ProfilePairs(bad); got != -1 {
			t.Errorf("ProfilePairs of %s is %d", name, got)
		}
	}
}

// Promise 53: eyes written out.
func TestProfileEyeByHand(t *testing.T) {
	hills := []int{3, 1, 4, 2, 5}
	for _, x := range []struct {
		p    []int
		i, k int
		want int
	}{
		{[]int{7}, 0, 0, 0},
		{[]int{0, 99}, 0, 1, 0},
		{[]int{0, 99}, 1, 0, 0},
		{[]int{5, 5, 5}, 0, 2, 0},
		{[]int{5, 6, 5}, 0, 2, 2},
		{[]int{5, 6, 5}, 2, 0, 2},
		{hills, 0, 3, 5}, {hills, 3, 0, 3}, {hills, 1, 3, 5}, {hills, 3, 1, 5}, {hills, 1, 4, 3}, {hills, 4, 1, 5},
		{hills, 0, 4, 0}, {hills, 2, 2, 0}, {hills, 3, 4, 0},
		// Rounded up: from one side 3 halves, from the other side 3.
		{[]int{0, 1, 0, 0}, 0, 3, 2},
		{[]int{0, 1, 0, 0}, 3, 0, 3},
		// Several points are in the way.
		{[]int{0, 3, 5, 0}, 0, 3, 15},
		{[]int{0, 3, 5, 0}, 3, 0, 9},
		// The greatest eye, and one that is not enough.
		{[]int{0, 25, 0}, 0, 2, 50},
		{[]int{0, 25, 0}, 2, 0, 50},
		{[]int{0, 26, 0}, 0, 2, -1},
		{[]int{0, 26, 0}, 2, 0, -1},
		{[]int{49, 99, 99}, 0, 2, 50},
		{[]int{48, 99, 99}, 0, 2, -1},
		{[]int{99, 99, 49}, 0, 2, 50},
		{[]int{99, 99, 48}, 0, 2, -1},
		{[]int{0, 99, 0}, 0, 1, 0},
		{[]int{0, 99, 0}, 0, 2, -1},
		{with(flatLine(20, 0), 18, 2), 0, 19, 38},
		{with(flatLine(20, 0), 18, 3), 0, 19, -1},
		{with(flatLine(20, 0), 18, 2), 19, 0, 3},
		{with(flatLine(20, 0), 18, 47), 19, 0, 50},
		{with(flatLine(20, 0), 18, 48), 19, 0, -1},
		{with(flatLine(20, 99), 0, 98), 0, 19, 1},
		{with(flatLine(20, 99), 0, 98), 19, 0, 18},
		{with(flatLine(20, 99), 19, 97), 0, 19, 36},
		{with(flatLine(20, 99), 19, 96), 0, 19, -1},
	} {
		if got := impl.ProfileEye(x.p, x.i, x.k); got != x.want {
			t.Errorf("ProfileEye(%v, %d, %d) = %d, want %d", x.p, x.i, x.k, got, x.want)
		}
	}
}

// Promise 53.
func TestProfileEye(t *testing.T) {
	greatest := 0
	for _, p := range profiles() {
		for i := range p {
			for k := range p {
				got := impl.ProfileEye(p, i, k)
				if got != eyeOf(p, i, k) || got > 50 || (got == 0) != impl.ProfileSees(p, i, k) {
					t.Fatalf("ProfileEye(%v, %d, %d) = %d, want %d", p, i, k, got, eyeOf(p, i, k))
				}
				if got <= 0 {
					continue
				}
				greatest = max(greatest, got)
				if h := p[i] + got; h <= 99 && !impl.ProfileSees(with(p, i, h), i, k) {
					t.Fatalf("ProfileEye(%v, %d, %d) = %d, but the ground so much higher does not see", p, i, k, got)
				}
				if h := p[i] + got - 1; h <= 99 && impl.ProfileSees(with(p, i, h), i, k) {
					t.Fatalf("ProfileEye(%v, %d, %d) = %d, but the ground less higher sees, too", p, i, k, got)
				}
			}
		}
	}
	if greatest != 50 {
		t.Errorf("the greatest eye of all is %d", greatest)
	}
}

// Promises 50, 51 and 53: points that are not there, and lists that are no profile.
func TestSightRefuses(t *testing.T) {
	for _, p := range [][]int{{5}, {0, 99}, {5, 5, 5}, {3, 1, 4, 2, 5}, flatLine(12, 0), flatLine(13, 99), hill(19), valley(20)} {
		for _, none := range noPoints(p) {
			wantNoSight(t, p, none, 0)
			wantNoSight(t, p, 0, none)
			wantNoSight(t, p, len(p)-1, none)
			wantNoSight(t, p, none, len(p)-1)
			wantNoSight(t, p, none, none)
			wantNoSight(t, p, none, -1)
			if got := impl.ProfileSeen(p, none); len(got) != 0 {
				t.Errorf("ProfileSeen(%v, %d) = %v", p, none, got)
			}
		}
	}
	for name, bad := range badProfiles() {
		for _, i := range oddNumbers() {
			wantNoSight(t, bad, i, 0)
			wantNoSight(t, bad, 0, i)
			wantNoSight(t, bad, i, i)
			if got := impl.ProfileSeen(bad, i); len(got) != 0 {
				t.Errorf("ProfileSeen of %s and %d is %v", name, i, got)
			}
		}
	}
}

func wantNoSight(t *testing.T, p []int, i, k int) {
	t.Helper()
	if impl.ProfileSees(p, i, k) {
		t.Errorf("ProfileSees of %d points, %d and %d is true", len(p), i, k)
	}
	if got := impl.ProfileEye(p, i, k); got != -1 {
		t.Errorf("ProfileEye of %d points, %d and %d is %d", len(p), i, k, got)
	}
}
