package tests

import (
	"slices"
	"testing"

	"loop.example/reliefmaps/impl"
)

// Promise 70: heights written out.
func TestThinProfileByHand(t *testing.T) {
	steep := []int{0, 3, 4, 9, 8}
	for _, x := range []struct{ p, list, want []int }{
		{[]int{7}, []int{0}, []int{7}},
		{[]int{0, 99}, []int{0, 1}, []int{0, 99}},
		{[]int{99, 0}, []int{0, 1}, []int{99, 0}},
		{steep, []int{0, 4}, []int{0, 8}},
		{steep, []int{0, 3, 4}, []int{0, 9, 8}},
		{steep, []int{0, 1, 2, 4}, []int{0, 3, 4, 8}},
		{steep, []int{0, 1, 2, 3, 4}, steep},
		{rule(20, func(i int) int { return 5 * i }), []int{0, 1, 10, 18, 19}, []int{0, 5, 50, 90, 95}},
		{flatLine(20, 99), []int{0, 19}, []int{99, 99}},
	} {
		if got, ok := impl.ThinProfile(x.p, x.list); !ok || !slices.Equal(got, x.want) {
			t.Errorf("ThinProfile(%v, %v) = %v, %v; want %v, true", x.p, x.list, got, ok, x.want)
		}
	}
}

// Promise 70.
func TestThinProfile(t *testing.T) {
	atEachThinning(func(p, list []int) {
		got := thinned(t, p, list)
		want := rule(len(list), func(i int) int { return p[list[i]] })
		if !slices.Equal(got, want) || !impl.ProfileValid(got) {
			t.Fatalf("ThinProfile(%v, %v) = %v, want %v", p, list, got, want)
		}
		up, down, _ := impl.ProfileClimb(p)
		thinUp, thinDown, ok := impl.ProfileClimb(got)
		if !ok || thinUp > up || thinDown > down {
			t.Fatalf("ProfileClimb(%v) = %d, %d, but thinned to %v %d, %d", p, up, down, list, thinUp, thinDown)
		}
	})
}

// Promise 71: halves written out.
func TestThinHalfByHand(t *testing.T) {
	for _, x := range []struct {
		points int
		want   []int
	}{
		{1, []int{0}},
		{2, []int{0, 1}},
		{3, []int{0, 2}},
		{4, []int{0, 2, 3}},
		{5, []int{0, 2, 4}},
		{6, []int{0, 2, 4, 5}},
		{7, []int{0, 2, 4, 6}},
		{19, []int{0, 2, 4, 6, 8, 10, 12, 14, 16, 18}},
		{20, []int{0, 2, 4, 6, 8, 10, 12, 14, 16, 18, 19}},
	} {
		for _, p := range [][]int{flatLine(x.points, 0), flatLine(x.points, 99), rule(x.points, func(i int) int { return 37 * i % 100 })} {
			if got, ok := impl.ThinHalf(p); !ok || !slices.Equal(got, x.want) {
				t.Errorf("ThinHalf(%v) = %v, %v; want %v, true", p, got, ok, x.want)
			}
		}
	}
}

// Promise 71.
func TestThinHalf(t *testing.T) {
	for _, p := range profiles() {
		got, ok := impl.ThinHalf(p)
		if !ok || !impl.ThinValid(p, got) || len(got) != len(p)/2+1 {
			t.Fatalf("ThinHalf(%v) = %v, %v", p, got, ok)
		}
		for i, j := range got {
			if j != 2*i && i < len(got)-1 {
				t.Fatalf("ThinHalf(%v) = %v", p, got)
			}
		}
	}
	for name, bad := range badProfiles() {
		got, ok := impl.ThinHalf(bad)
		wantNoList(t, "ThinHalf of "+name, got, ok)
	}
}

// Promise 72: dropped points written out; nil where there is none to be dropped.
func TestThinDropByHand(t *testing.T) {
	steep := []int{0, 3, 4, 9, 8}
	for _, x := range []struct {
		p, list []int
		k       int
		want    []int
	}{
		{[]int{7}, []int{0}, 0, nil},
		{[]int{7}, []int{0}, 1, nil},
		{[]int{7, 9}, []int{0, 1}, 0, nil},
		{[]int{7, 9}, []int{0, 1}, 1, nil},
		{[]int{7, 9}, []int{0, 1}, 2, nil},
		{[]int{7, 9, 7}, []int{0, 2}, 0, nil},
		{[]int{7, 9, 7}, []int{0, 2}, 1, nil},
		{[]int{7, 9, 7}, []int{0, 1, 2}, 0, nil},
		{[]int{7, 9, 7}, []int{0, 1, 2}, 1, []int{0, 2}},
		{[]int{7, 9, 7}, []int{0, 1, 2}, 2, nil},
		{[]int{7, 9, 7}, []int{0, 1, 2}, 3, nil},
		// A place of the list is no point of the profile.
		{steep, []int{0, 2, 3, 4}, 1, []int{0, 3, 4}},
		{steep, []int{0, 2, 3, 4}, 2, []int{0, 2, 4}},
		{steep, []int{0, 2, 3, 4}, 3, nil},
		{steep, []int{0, 2, 3, 4}, 4, nil},
		{steep, []int{0, 3, 4}, 1, []int{0, 4}},
		{steep, []int{0, 3, 4}, 3, nil},
		{steep, []int{0, 1, 2, 3, 4}, 1, []int{0, 2, 3, 4}},
		{steep, []int{0, 1, 2, 3, 4}, 2, []int{0, 1, 3, 4}},
		{steep, []int{0, 1, 2, 3, 4}, 3, []int{0, 1, 2, 4}},
		{flatLine(20, 5), allPoints(20), 1, without(allPoints(20), 1)},
		{flatLine(20, 5), allPoints(20), 18, without(allPoints(20), 18)},
		{flatLine(20, 5), allPoints(20), 19, nil},
		{flatLine(20, 5), allPoints(20), 20, nil},
	} {
		got, ok := impl.ThinDrop(x.p, x.list, x.k)
		if ok != (len(x.want) > 0) || !slices.Equal(got, x.want) {
			t.Errorf("ThinDrop(%v, %v, %d) = %v, %v; want %v", x.p, x.list, x.k, got, ok, x.want)
		}
	}
}

// Promise 72.
func TestThinDrop(t *testing.T) {
	atEachThinning(func(p, list []int) {
		for k := 1; k < len(list)-1; k++ {
			got, ok := impl.ThinDrop(p, list, k)
			if !ok || !slices.Equal(got, without(list, k)) || !impl.ThinValid(p, got) {
				t.Fatalf("ThinDrop(%v, %v, %d) = %v, %v", p, list, k, got, ok)
			}
			up, down, _ := impl.ProfileClimb(thinned(t, p, list))
			lessUp, lessDown, _ := impl.ProfileClimb(thinned(t, p, got))
			if lessUp > up || lessDown > down {
				t.Fatalf("ThinDrop(%v, %v, %d) = %v climbs more", p, list, k, got)
			}
			if impl.ThinError(p, got) == 0 && (lessUp != up || lessDown != down) {
				t.Fatalf("ThinDrop(%v, %v, %d) = %v has no error, but climbs less", p, list, k, got)
			}
		}
	})
}

// Promise 72: the ends, and places that are not there.
func TestThinDropRefusesPlaces(t *testing.T) {
	for points := 1; points <= 20; points++ {
		for _, list := range someThinnings(points) {
			for _, k := range append(oddNumbers(), len(list)-1, len(list), points-1, points, 19, 20) {
				if k <= 0 || k >= len(list)-1 {
					got, ok := impl.ThinDrop(flatLine(points, 50), list, k)
					wantNoList(t, "ThinDrop of an end or no place", got, ok)
				}
			}
		}
	}
}

// Promises 70 and 72: lists that are no profile, and lists to which it is not thinned.
func TestThinPointsRefuse(t *testing.T) {
	atEachNoThinning(func(name string, p, list []int) {
		got, ok := impl.ThinProfile(p, list)
		wantNoList(t, "ThinProfile of "+name, got, ok)
		for _, k := range []int{-1, 0, 1, 2, len(list) - 2, len(list) - 1} {
			got, ok = impl.ThinDrop(p, list, k)
			wantNoList(t, "ThinDrop of "+name, got, ok)
		}
	})
}
