package tests

import (
	"math"
	"slices"
	"testing"

	"loop.example/reliefmaps/impl"
)

// rule returns a profile whose heights a rule gives by point.
func rule(points int, height func(i int) int) []int {
	return fill(1, points, height)[0]
}

func flatLine(points, height int) []int {
	return rule(points, func(int) int { return height })
}

// hill returns a profile in which each point lies above all straight lines over it: each one sees its neighbors only.
func hill(points int) []int {
	return rule(points, func(i int) int { return i * (points - 1 - i) })
}

// valley returns a profile in which each point lies below all straight lines over it: each one sees all.
func valley(points int) []int {
	return rule(points, func(i int) int { return 99 - i*(points-1-i) })
}

// with returns a profile with another height at a point.
func with(p []int, i, height int) []int {
	x := slices.Clone(p)
	x[i] = height
	return x
}

// straight has straight lines of many lengths and slopes, with room for 1 above and below.
func straight() [][]int {
	var all [][]int
	for _, points := range []int{1, 2, 3, 4, 7, 12, 13, 20} {
		for _, slope := range []int{-10, -5, -1, 0, 1, 2, 5, 10} {
			p := rule(points, func(i int) int { return slope * i })
			p = rule(points, func(i int) int { return p[i] - slices.Min(p) + 1 })
			if slices.Max(p) < impl.HeightMax {
				all = append(all, p)
			}
		}
	}
	return all
}

// bent has straight lines with one point just above or just below.
func bent() [][]int {
	var all [][]int
	for _, p := range straight() {
		for j := range p {
			all = append(all, with(p, j, p[j]+1), with(p, j, p[j]-1))
		}
	}
	return all
}

// smallProfiles has all profiles of some lengths whose heights are below a few.
func smallProfiles() [][]int {
	var all [][]int
	for _, size := range [][2]int{{1, 4}, {2, 4}, {3, 6}, {4, 4}, {5, 3}, {6, 2}, {7, 2}} {
		many := 1
		for range size[0] {
			many *= size[1]
		}
		for k := range many {
			rest := k
			all = append(all, rule(size[0], func(int) int {
				h := rest % size[1]
				rest /= size[1]
				return h
			}))
		}
	}
	return all
}

// profiles has the profiles on which the promises of the chapter are checked.
func profiles() [][]int {
	all := slices.Concat(smallProfiles(), straight(), bent())
	for points := 1; points <= 20; points++ {
		all = append(all, flatLine(points, 0), flatLine(points, 50), flatLine(points, 99), hill(points), valley(points),
			rule(points, func(i int) int { return 99 * (i % 2) }),
			rule(points, func(i int) int { return 99 * (1 - i%2) }),
			rule(points, func(i int) int { return 30 * (i % 3) }))
		for _, few := range []int{2, 3, 5, 9, 30, 100} {
			for seed := range 3 {
				all = append(all, steps(1, points, few, 1000*points+10*few+seed)[0])
			}
		}
	}
	return all
}

// fewerProfiles has some of them, for checks that take long for each one.
func fewerProfiles() [][]int {
	some := straight()
	for k, p := range profiles() {
		if k%5 == 0 {
			some = append(some, p)
		}
	}
	return some
}

// badProfiles has lists that are no profile.
func badProfiles() map[string][]int {
	return map[string][]int{
		"nil":                    nil,
		"no points":              {},
		"21 points":              flatLine(21, 5),
		"22 points":              flatLine(22, 5),
		"40 points":              flatLine(40, 0),
		"many points":            make([]int, 100000),
		"only height -1":         {-1},
		"only height 100":        {100},
		"first height -1":        {-1, 5, 5},
		"first height 100":       {100, 5, 5},
		"last height -1":         {5, 5, -1},
		"last height 100":        {5, 5, 100},
		"height -1 inside":       {5, -1, 5, 5},
		"height 100 inside":      {5, 5, 100, 5},
		"20 points, the last -1": with(flatLine(20, 5), 19, -1),
		"20 points, one 100":     with(flatLine(20, 5), 10, 100),
		"least number":           {5, math.MinInt},
		"greatest number":        {math.MaxInt, 5},
		"256":                    {256, 5},
		"a height and 2 to 32":   {5, 1<<32 + 5, 5},
		"all far below":          flatLine(20, math.MinInt),
		"all far above":          flatLine(20, math.MaxInt),
	}
}

// noPoints has numbers that are no point of a profile.
func noPoints(p []int) []int {
	var none []int
	for _, n := range append(oddNumbers(), len(p), len(p)+1, 19, 20, 21) {
		if n < 0 || n >= len(p) {
			none = append(none, n)
		}
	}
	return none
}

// These follow the document, but with the straight lines themselves; they are for profiles only.

// tiny is less than all differences that are not 0: these are multiples of a 19th or of a greater part.
const tiny = 0.001

// lineOver returns the height of the straight line between two eyes above a point.
func lineOver(i, a, k, b, j int) float64 {
	return float64(a) + float64(b-a)*float64(j-i)/float64(k-i)
}

// seesFrom reports whether an eye above a point sees another point on the ground.
func seesFrom(p []int, i, above, k int) bool {
	for j := min(i, k) + 1; j < max(i, k); j++ {
		if float64(p[j]) > lineOver(i, p[i]+above, k, p[k], j)+tiny {
			return false
		}
	}
	return true
}

func seenOf(p []int, i int) []int {
	var list []int
	for k := range p {
		if seesFrom(p, i, 0, k) {
			list = append(list, k)
		}
	}
	return list
}

func eyeOf(p []int, i, k int) int {
	for above := range 51 {
		if seesFrom(p, i, above, k) {
			return above
		}
	}
	return -1
}

// hullOf goes from each point of the hull to the next one, which is the one that lies the highest from there; of
// several on one line it is the farthest.
func hullOf(p []int) []int {
	hull := []int{0}
	for last := 0; last < len(p)-1; {
		next, steepest := last, math.Inf(-1)
		for k := last + 1; k < len(p); k++ {
			slope := float64(p[k]-p[last]) / float64(k-last)
			if slope > steepest-tiny {
				next, steepest = k, slope
			}
		}
		hull, last = append(hull, next), next
	}
	return hull
}

// watchOf returns the least number of points that see all: some point must see the first one that is not seen yet.
func watchOf(p []int) int {
	for many := 1; ; many++ {
		if canWatch(p, make([]bool, len(p)), many) {
			return many
		}
	}
}

func canWatch(p []int, seen []bool, many int) bool {
	first := slices.Index(seen, false)
	if first < 0 || many == 0 {
		return first < 0
	}
	for i := range p {
		if !seesFrom(p, i, 0, first) {
			continue
		}
		more := slices.Clone(seen)
		for _, k := range seenOf(p, i) {
			more[k] = true
		}
		if canWatch(p, more, many-1) {
			return true
		}
	}
	return false
}

func pairsOf(p []int) int {
	pairs := 0
	for k := range p {
		for i := range k {
			if seesFrom(p, i, 0, k) {
				pairs++
			}
		}
	}
	return pairs
}

// These are for profiles and points with which the functions succeed.

func back(t *testing.T, p []int) []int {
	t.Helper()
	x, ok := impl.ProfileBack(p)
	if !ok {
		t.Fatalf("ProfileBack(%v) failed", p)
	}
	return x
}

func hull(t *testing.T, p []int) []int {
	t.Helper()
	x, ok := impl.ProfileHull(p)
	if !ok {
		t.Fatalf("ProfileHull(%v) failed", p)
	}
	return x
}

func best(t *testing.T, p []int) int {
	t.Helper()
	x, ok := impl.ProfileBest(p)
	if !ok {
		t.Fatalf("ProfileBest(%v) failed", p)
	}
	return x
}
