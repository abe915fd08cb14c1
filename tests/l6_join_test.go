package tests

import (
	"slices"
	"testing"

	"loop.example/reliefmaps/impl"
)

// Promise 73: joined lists written out; nil where there is none.
func TestThinJoinByHand(t *testing.T) {
	line := func(points int) []int { return flatLine(points, 5) }
	for _, x := range []struct{ p, a, q, b, want []int }{
		{[]int{7}, []int{0}, []int{7}, []int{0}, []int{0}},
		{[]int{7}, []int{0}, []int{8}, []int{0}, nil},
		{[]int{7}, []int{0}, []int{7, 9}, []int{0, 1}, []int{0, 1}},
		{[]int{7, 9}, []int{0, 1}, []int{9}, []int{0}, []int{0, 1}},
		{[]int{7, 9}, []int{0, 1}, []int{7}, []int{0}, nil},
		{[]int{7, 9}, []int{0, 1}, []int{9, 7}, []int{0, 1}, []int{0, 1, 2}},
		{[]int{7, 9}, []int{0, 1}, []int{7, 9}, []int{0, 1}, nil},
		// The last height is that at the first one, but not at the common point.
		{[]int{7, 9}, []int{0, 1}, []int{8, 7}, []int{0, 1}, nil},
		{[]int{0, 99}, []int{0, 1}, []int{98, 0}, []int{0, 1}, nil},
		{[]int{0, 3, 4, 9, 8}, []int{0, 4}, []int{8, 1, 8}, []int{0, 2}, []int{0, 4, 6}},
		{[]int{0, 3, 4, 9, 8}, []int{0, 2, 4}, []int{8, 1, 8}, []int{0, 1, 2}, []int{0, 2, 4, 5, 6}},
		{[]int{0, 3, 4, 9, 8}, []int{0, 1, 2, 3, 4}, []int{8, 1, 8}, []int{0, 2}, []int{0, 1, 2, 3, 4, 6}},
		// The first one moves the second one by all its points, not by those that are left.
		{line(10), []int{0, 9}, line(11), []int{0, 1, 10}, []int{0, 9, 10, 19}},
		{line(10), allPoints(10), line(11), allPoints(11), allPoints(20)},
		{line(11), []int{0, 10}, line(11), []int{0, 10}, nil},
		{line(10), []int{0, 9}, line(12), []int{0, 11}, nil},
		{line(20), []int{0, 19}, line(1), []int{0}, []int{0, 19}},
		{line(20), allPoints(20), line(1), []int{0}, allPoints(20)},
		{line(1), []int{0}, line(20), []int{0, 19}, []int{0, 19}},
		{line(1), []int{0}, line(20), allPoints(20), allPoints(20)},
		{line(19), []int{0, 18}, line(2), []int{0, 1}, []int{0, 18, 19}},
		{line(2), []int{0, 1}, line(19), []int{0, 18}, []int{0, 1, 19}},
		{line(20), []int{0, 19}, line(2), []int{0, 1}, nil},
		{line(2), []int{0, 1}, line(20), []int{0, 19}, nil},
		{line(20), []int{0, 19}, line(20), []int{0, 19}, nil},
	} {
		got, ok := impl.ThinJoin(x.p, x.a, x.q, x.b)
		if ok != (len(x.want) > 0) || !slices.Equal(got, x.want) {
			t.Errorf("ThinJoin(%v, %v, %v, %v) = %v, %v; want %v", x.p, x.a, x.q, x.b, got, ok, x.want)
		}
	}
}

// checkJoin cuts a profile at a point and joins both parts again.
func checkJoin(t *testing.T, p []int, cut int, a, b []int) {
	t.Helper()
	first, second := slices.Clone(p[:cut+1]), slices.Clone(p[cut:])
	got, ok := impl.ThinJoin(first, a, second, b)
	want := slices.Clone(a)
	for _, j := range b[1:] {
		want = append(want, cut+j)
	}
	if !ok || !slices.Equal(got, want) || len(got) != len(a)+len(b)-1 {
		t.Fatalf("ThinJoin(%v, %v, %v, %v) = %v, %v; want %v, true", first, a, second, b, got, ok, want)
	}
	if !impl.ThinValid(p, got) || impl.ThinError(p, got) != max(impl.ThinError(first, a), impl.ThinError(second, b)) {
		t.Fatalf("ThinJoin(%v, %v, %v, %v) = %v has the error %d", first, a, second, b, got, impl.ThinError(p, got))
	}
}

// Promise 73.
func TestThinJoin(t *testing.T) {
	for _, p := range fewerProfiles() {
		for cut := range p {
			ahead, behind := someThinnings(cut+1), someThinnings(len(p)-cut)
			// Each list is joined with another one, but not all with all.
			for n := range max(len(ahead), len(behind)) {
				checkJoin(t, p, cut, ahead[n%len(ahead)], behind[n%len(behind)])
				checkJoin(t, p, cut, ahead[n%len(ahead)], behind[(5*n+1)%len(behind)])
			}
		}
	}
}

// Promise 73: joined profiles of at most 20 points, with one height at the common point.
func TestThinJoinLimits(t *testing.T) {
	for m := 1; m <= 20; m++ {
		for n := 1; n <= 20; n++ {
			p, q := rule(m, func(i int) int { return 30 + i }), rule(n, func(i int) int { return 29 + m - i })
			a, b := allPoints(m), allPoints(n)
			got, ok := impl.ThinJoin(p, a, q, b)
			if m+n-1 > 20 {
				wantNoList(t, "ThinJoin of too many points", got, ok)
				continue
			}
			if !ok || !slices.Equal(got, allPoints(m+n-1)) {
				t.Errorf("ThinJoin(%v, %v, %v, %v) = %v, %v", p, a, q, b, got, ok)
			}
			for _, h := range []int{p[m-1] - 1, p[m-1] + 1, 0, 99} {
				got, ok = impl.ThinJoin(p, a, with(q, 0, h), b)
				wantNoList(t, "ThinJoin at another height", got, ok)
				got, ok = impl.ThinJoin(with(p, m-1, h), a, q, b)
				wantNoList(t, "ThinJoin to another height", got, ok)
			}
		}
	}
}

// Promise 73: lists that are no profile, and lists to which it is not thinned, in both places.
func TestThinJoinRefuses(t *testing.T) {
	ends := func(p []int) []int { return slices.Compact([]int{0, len(p) - 1}) }
	// The common point has one height, so that this is not what is refused.
	line := func(points int, common []int) []int {
		if len(common) == 0 || common[0] < 0 || common[0] > 99 {
			return flatLine(points, 50)
		}
		return flatLine(points, common[0])
	}
	atEachNoThinning(func(name string, p, list []int) {
		for _, points := range []int{1, 2, 20} {
			behind, ahead := line(points, p[max(0, len(p)-1):]), line(points, p)
			got, ok := impl.ThinJoin(p, list, behind, ends(behind))
			wantNoList(t, "ThinJoin of "+name, got, ok)
			got, ok = impl.ThinJoin(ahead, ends(ahead), p, list)
			wantNoList(t, "ThinJoin to "+name, got, ok)
		}
		got, ok := impl.ThinJoin(p, list, p, list)
		wantNoList(t, "ThinJoin of itself and "+name, got, ok)
	})
}
