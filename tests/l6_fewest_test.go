package tests

import (
	"slices"
	"testing"

	"loop.example/reliefmaps/impl"
)

// Promises 66 to 68: the best and the greedy points, written out.
func TestThinBestAndGreedyByHand(t *testing.T) {
	steep := []int{0, 3, 4, 9, 8}
	for _, x := range []struct {
		p            []int
		e            int
		best, greedy []int
	}{
		{[]int{0}, 0, []int{0}, []int{0}},
		{[]int{99}, 99, []int{0}, []int{0}},
		{[]int{0, 99}, 0, []int{0, 1}, []int{0, 1}},
		{[]int{99, 0}, 99, []int{0, 1}, []int{0, 1}},
		{[]int{5, 5}, 50, []int{0, 1}, []int{0, 1}},
		{[]int{5, 5, 5}, 0, []int{0, 2}, []int{0, 2}},
		{[]int{0, 1, 2}, 0, []int{0, 2}, []int{0, 2}},
		{[]int{2, 1, 0}, 0, []int{0, 2}, []int{0, 2}},
		{[]int{0, 1, 1}, 0, []int{0, 1, 2}, []int{0, 1, 2}},
		{[]int{0, 1, 1}, 1, []int{0, 2}, []int{0, 2}},
		{[]int{0, 99, 0}, 98, []int{0, 1, 2}, []int{0, 1, 2}},
		{[]int{0, 99, 0}, 99, []int{0, 2}, []int{0, 2}},
		{[]int{99, 0, 99}, 98, []int{0, 1, 2}, []int{0, 1, 2}},
		{[]int{99, 0, 99}, 99, []int{0, 2}, []int{0, 2}},
		{steep, 0, []int{0, 1, 2, 3, 4}, []int{0, 1, 2, 3, 4}},
		{steep, 1, []int{0, 2, 3, 4}, []int{0, 2, 3, 4}},
		{steep, 2, []int{0, 3, 4}, []int{0, 3, 4}},
		{steep, 3, []int{0, 4}, []int{0, 4}},
		// Either of both points between would do, and then either of the points 2 and 3.
		{[]int{0, 2, 2, 0}, 1, []int{0, 2, 3}, []int{0, 2, 3}},
		{[]int{0, 4, 6, 6, 4, 0}, 2, []int{0, 3, 5}, []int{0, 3, 5}},
		// To go as far as can be takes a point more, since the point there is in no good place.
		{[]int{1, 3, 3, 0, 0}, 1, []int{0, 1, 4}, []int{0, 2, 3, 4}},
		{[]int{3, 3, 3, 0, 0}, 1, []int{0, 1, 4}, []int{0, 2, 3, 4}},
		{[]int{0, 2, 2, 0, 0, 0}, 1, []int{0, 1, 5}, []int{0, 2, 4, 5}},
		// The point 3 is within reach, though the point 2 is not.
		{[]int{3, 3, 0, 0, 0}, 1, []int{0, 3, 4}, []int{0, 3, 4}},
		{[]int{3, 1, 2, 0, 0}, 1, []int{0, 3, 4}, []int{0, 3, 4}},
		{flatLine(20, 99), 0, []int{0, 19}, []int{0, 19}},
		{rule(20, func(i int) int { return 5 * i }), 0, []int{0, 19}, []int{0, 19}},
		{rule(20, func(i int) int { return 95 - 5*i }), 0, []int{0, 19}, []int{0, 19}},
		{with(flatLine(20, 98), 9, 99), 0, []int{0, 8, 9, 10, 19}, []int{0, 8, 9, 10, 19}},
		{with(flatLine(20, 98), 9, 99), 1, []int{0, 19}, []int{0, 19}},
		{valley(20), 0, allPoints(20), allPoints(20)},
		{rule(20, func(i int) int { return 99 * (i % 2) }), 0, allPoints(20), allPoints(20)},
		{rule(20, func(i int) int { return 99 * (i % 2) }), 99, []int{0, 19}, []int{0, 19}},
	} {
		if got := impl.ThinFewest(x.p, x.e); got != len(x.best) {
			t.Errorf("ThinFewest(%v, %d) = %d, want %d", x.p, x.e, got, len(x.best))
		}
		if got, ok := impl.ThinBest(x.p, x.e); !ok || !slices.Equal(got, x.best) {
			t.Errorf("ThinBest(%v, %d) = %v, %v; want %v, true", x.p, x.e, got, ok, x.best)
		}
		if got, ok := impl.ThinGreedy(x.p, x.e); !ok || !slices.Equal(got, x.greedy) {
			t.Errorf("ThinGreedy(%v, %d) = %v, %v; want %v, true", x.p, x.e, got, ok, x.greedy)
		}
	}
}

// Promises 66, 67 and 69: with all lists tried.
func TestThinnestOfAll(t *testing.T) {
	atEachThinnest(func(p []int, thinnest [100][]int) {
		for e, want := range thinnest {
			if got := impl.ThinFewest(p, e); got != len(want) {
				t.Fatalf("ThinFewest(%v, %d) = %d, want %d", p, e, got, len(want))
			}
			if got := thinBest(t, p, e); !slices.Equal(got, want) {
				t.Fatalf("ThinBest(%v, %d) = %v, want %v", p, e, got, want)
			}
		}
		for n := min(2, len(p)); n <= 20; n++ {
			want := slices.IndexFunc(thinnest[:], func(list []int) bool { return len(list) <= n })
			if got := impl.ThinLeast(p, n); got != want {
				t.Fatalf("ThinLeast(%v, %d) = %d, want %d", p, n, got, want)
			}
		}
	})
}

// Promise 66.
func TestThinFewest(t *testing.T) {
	for _, p := range profiles() {
		other := back(t, p)
		for _, e := range someErrors() {
			got := impl.ThinFewest(p, e)
			if got > len(p) || got < min(2, len(p)) {
				t.Fatalf("ThinFewest(%v, %d) = %d", p, e, got)
			}
			if e < 99 && impl.ThinFewest(p, e+1) > got {
				t.Fatalf("ThinFewest(%v, %d) = %d, but it is more with %d", p, e, got, e+1)
			}
			if backwards := impl.ThinFewest(other, e); backwards != got {
				t.Fatalf("ThinFewest(%v, %d) = %d, but %d backwards", p, e, got, backwards)
			}
		}
	}
}

// Promise 67.
func TestThinBest(t *testing.T) {
	for _, p := range profiles() {
		for _, e := range someErrors() {
			got := thinBest(t, p, e)
			if !impl.ThinKeeps(p, got, e) || len(got) != impl.ThinFewest(p, e) {
				t.Fatalf("ThinBest(%v, %d) = %v", p, e, got)
			}
			for place := 1; place < len(got)-1; place++ {
				if impl.ThinKeeps(p, without(got, place), e) {
					t.Fatalf("ThinBest(%v, %d) = %v, but %d can be left out", p, e, got, got[place])
				}
			}
		}
	}
}

// Promise 68.
func TestThinGreedy(t *testing.T) {
	for _, p := range profiles() {
		for _, e := range someErrors() {
			got, ok := impl.ThinGreedy(p, e)
			if want := greedyOf(p, e); !ok || !slices.Equal(got, want) {
				t.Fatalf("ThinGreedy(%v, %d) = %v, %v; want %v, true", p, e, got, ok, want)
			}
			if !impl.ThinKeeps(p, got, e) || len(got) < impl.ThinFewest(p, e) {
				t.Fatalf("ThinGreedy(%v, %d) = %v", p, e, got)
			}
			if best := thinBest(t, p, e); len(p) > 1 && got[1] < best[1] {
				t.Fatalf("ThinGreedy(%v, %d) = %v, but ThinBest = %v goes farther", p, e, got, best)
			}
		}
	}
}

// Promises 66 to 68: errors out of the range, and lists that are no profile.
func TestThinFewestRefuses(t *testing.T) {
	check := func(name string, p []int, e int) {
		if got := impl.ThinFewest(p, e); got != -1 {
			t.Errorf("ThinFewest of %s and %d is %d", name, e, got)
		}
		got, ok := impl.ThinBest(p, e)
		wantNoList(t, "ThinBest of "+name, got, ok)
		got, ok = impl.ThinGreedy(p, e)
		wantNoList(t, "ThinGreedy of "+name, got, ok)
	}
	for name, bad := range badProfiles() {
		for _, e := range slices.Concat(someErrors(), noErrors()) {
			check(name, bad, e)
		}
	}
	for points := 1; points <= 20; points++ {
		for _, e := range noErrors() {
			check("a flat line", flatLine(points, 50), e)
			check("a zigzag", rule(points, func(i int) int { return 99 * (i % 2) }), e)
		}
	}
}

// Promise 69: least errors written out, for each number of points from 2 on.
func TestThinLeastByHand(t *testing.T) {
	for _, x := range []struct {
		p    []int
		want []int
	}{
		{[]int{0}, []int{0, 0}},
		{[]int{0, 99}, []int{0, 0, 0}},
		{[]int{99, 0}, []int{0, 0, 0}},
		{[]int{7, 7, 7}, []int{0, 0}},
		{[]int{0, 1, 2}, []int{0, 0}},
		{[]int{0, 1, 1}, []int{1, 0, 0}},
		{[]int{0, 99, 0}, []int{99, 0, 0}},
		{[]int{99, 0, 99}, []int{99, 0, 0}},
		{[]int{0, 99, 99}, []int{50, 0, 0}},
		{[]int{0, 3, 4, 9, 8}, []int{3, 2, 1, 0, 0}},
		{[]int{0, 2, 2, 0}, []int{2, 1, 0}},
		{[]int{0, 99, 0, 99}, []int{66, 66, 0, 0}},
		{with(flatLine(20, 98), 9, 99), []int{1, 1, 1, 0, 0}},
		{with(flatLine(20, 0), 10, 99), []int{99, 90, 88, 0, 0}},
		{flatLine(20, 99), []int{0, 0}},
		{rule(20, func(i int) int { return 5 * i }), []int{0, 0}},
	} {
		for k, want := range x.want {
			if got := impl.ThinLeast(x.p, k+2); got != want {
				t.Errorf("ThinLeast(%v, %d) = %d, want %d", x.p, k+2, got, want)
			}
		}
		if got, want := impl.ThinLeast(x.p, 20), x.want[len(x.want)-1]; got != want {
			t.Errorf("ThinLeast(%v, 20) = %d, want %d", x.p, got, want)
		}
	}
}

// Promise 69.
func TestThinLeast(t *testing.T) {
	for _, p := range fewerProfiles() {
		for n := min(2, len(p)); n <= 20; n++ {
			got := impl.ThinLeast(p, n)
			if got < 0 || impl.ThinFewest(p, got) > n {
				t.Fatalf("ThinLeast(%v, %d) = %d", p, n, got)
			}
			if got > 0 && impl.ThinFewest(p, got-1) <= n {
				t.Fatalf("ThinLeast(%v, %d) = %d, but 1 less can be kept", p, n, got)
			}
			if n < 20 && impl.ThinLeast(p, n+1) > got {
				t.Fatalf("ThinLeast(%v, %d) = %d, but it is greater with a point more", p, n, got)
			}
			if n >= len(p) && got != 0 {
				t.Fatalf("ThinLeast(%v, %d) = %d", p, n, got)
			}
		}
	}
}

// Promise 69: numbers of points out of the range, which has 1 for a profile of one point only.
func TestThinLeastRefuses(t *testing.T) {
	for points := 1; points <= 20; points++ {
		for _, p := range [][]int{flatLine(points, 0), rule(points, func(i int) int { return 99 - 99*(i%2) })} {
			for _, n := range append(oddNumbers(), 10, 19, 20, 21, 22) {
				got, fits := impl.ThinLeast(p, n), n >= 2 && n <= 20 || n == 1 && points == 1
				if fits != (got >= 0) || !fits && got != -1 {
					t.Errorf("ThinLeast(%v, %d) = %d", p, n, got)
				}
			}
		}
	}
	for name, bad := range badProfiles() {
		for _, n := range append(oddNumbers(), 20, 21) {
			if got := impl.ThinLeast(bad, n); got != -1 {
				t.Errorf("ThinLeast of %s and %d is %d", name, n, got)
			}
		}
	}
}
