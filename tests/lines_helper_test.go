package tests

import (
	"iter"
	"math"
	"slices"
	"testing"

	"loop.example/reliefmaps/impl"
)

// allPoints returns the list of as many points, from 0 on.
func allPoints(points int) []int {
	list := make([]int, points)
	for i := range list {
		list[i] = i
	}
	return list
}

// without returns a list without what is at a place of it.
func without(list []int, place int) []int {
	return slices.Delete(slices.Clone(list), place, place+1)
}

// pick returns the first point, the points between that a rule picks, and the last point.
func pick(points int, isPicked func(j int) bool) []int {
	return slices.DeleteFunc(allPoints(points), func(j int) bool {
		return j > 0 && j < points-1 && !isPicked(j)
	})
}

// thinnings has all lists to which a profile of so many points is thinned.
func thinnings(points int) iter.Seq[[]int] {
	return func(yield func([]int) bool) {
		for picked := range 1 << max(0, points-2) {
			if !yield(pick(points, func(j int) bool { return picked>>(j-1)&1 == 1 })) {
				return
			}
		}
	}
}

// someThinnings has all of these lists for few points, and some for many.
func someThinnings(points int) [][]int {
	if points <= 6 {
		return slices.Collect(thinnings(points))
	}
	some := [][]int{
		allPoints(points),
		pick(points, func(int) bool { return false }),
		pick(points, func(j int) bool { return j%2 == 0 }),
		pick(points, func(j int) bool { return j%3 == 1 }),
	}
	for _, only := range []int{1, points / 2, points - 2} {
		some = append(some,
			pick(points, func(j int) bool { return j == only }),
			pick(points, func(j int) bool { return j != only }))
	}
	for seed := range 4 {
		coins := steps(1, points, 2, 77*points+seed)[0]
		some = append(some, pick(points, func(j int) bool { return coins[j] == 1 }))
	}
	return some
}

// noThinnings has lists to which no profile of so many points is thinned.
func noThinnings(points int) map[string][]int {
	all, last := allPoints(points), points-1
	lists := map[string][]int{
		"nil":                       nil,
		"no points":                 {},
		"no first point":            all[1:],
		"no last point":             all[:last],
		"-1 for the first point":    slices.Concat([]int{-1}, all[1:]),
		"-1 ahead":                  slices.Concat([]int{-1}, all),
		"least number ahead":        slices.Concat([]int{math.MinInt}, all),
		"one more for the last one": slices.Concat(all[:last], []int{points}),
		"one more behind":           slices.Concat(all, []int{points}),
		"greatest number behind":    slices.Concat(all, []int{math.MaxInt}),
		"first point twice":         slices.Concat([]int{0}, all),
		"last point twice":          slices.Concat(all, []int{last}),
		"first point at the end":    slices.Concat(all, []int{0}),
		"last point at the front":   slices.Concat([]int{last}, all),
		"both ends exchanged":       {last, 0},
		"-1 between":                {0, -1, last},
		"0 between":                 {0, 0, last},
		"last point between":        {0, last, last},
		"one more between":          {0, points, last},
		"20 between":                {0, 20, last},
		"least number between":      {0, math.MinInt, last},
		"greatest number between":   {0, math.MaxInt, last},
		"only -1":                   {-1},
		"only one more":             {points},
		"only the least number":     {math.MinInt},
		"only the greatest number":  {math.MaxInt},
		"a point and 2 to the 32":   {0, 1<<32 + last},
		"2 to the 32 and a point":   {1 << 32, last},
		"21 points":                 allPoints(21),
		"many points":               allPoints(100000),
		"many zeros":                make([]int, 100000),
	}
	if points > 1 {
		lists["only the first point"] = []int{0}
		lists["only the last point"] = []int{last}
		backwards := slices.Clone(all)
		slices.Reverse(backwards)
		lists["backwards"] = backwards
	}
	for j := 1; j < last; j++ {
		lists["twice "+string(rune('a'+j))] = slices.Concat(all[:j+1], all[j:])
		lists["not ascending at "+string(rune('a'+j))] = slices.Concat(all[:j-1], []int{j, j - 1}, all[j+1:])
	}
	return lists
}

// someErrors has errors of the whole range.
func someErrors() []int {
	return []int{0, 1, 2, 3, 5, 10, 24, 25, 49, 50, 98, 99}
}

// noErrors has numbers that are no error: its range is that of the levels.
func noErrors() []int {
	return noLevels()
}

// longProfiles has profiles of 20 points, on which all lists are tried.
func longProfiles() [][]int {
	return [][]int{
		flatLine(20, 99),
		rule(20, func(i int) int { return 5 * i }),
		rule(20, func(i int) int { return 95 - 5*i }),
		valley(20),
		rule(20, func(i int) int { return 99 * (i % 2) }),
		rule(20, func(i int) int { return i * i / 4 }),
		steps(1, 20, 100, 5)[0],
		steps(1, 20, 9, 6)[0],
		steps(1, 20, 3, 7)[0],
	}
}

// These follow the document word by word; they are for profiles and lists to which these are thinned.

func errorOver(p []int, i, j, k int) int {
	differs := (k-i)*p[j] - (p[i]*(k-j) + p[k]*(j-i))
	e := 0
	for differs > e*(k-i) || -differs > e*(k-i) {
		e++
	}
	return e
}

func errorOf(p, list []int) int {
	greatest := 0
	for n := 1; n < len(list); n++ {
		for j := list[n-1] + 1; j < list[n]; j++ {
			greatest = max(greatest, errorOver(p, list[n-1], j, list[n]))
		}
	}
	return greatest
}

// isThinnedTo goes point by point through the profile, and counts those of the list that are found.
func isThinnedTo(points int, list []int) bool {
	found := 0
	for i := range points {
		if found < len(list) && list[found] == i {
			found++
		} else if i == 0 || i == points-1 {
			return false
		}
	}
	return found == len(list)
}

// thinner reports whether a list is to be returned rather than another one, or than none.
func thinner(list, other []int) bool {
	if len(list) == 0 || len(other) == 0 {
		return len(list) > 0
	}
	if len(list) != len(other) {
		return len(list) < len(other)
	}
	return slices.Compare(list, other) > 0
}

// thinnestOf tries all lists, and returns for each error the one that keeps it best.
func thinnestOf(p []int) [100][]int {
	var thinnest [100][]int
	for list := range thinnings(len(p)) {
		if e := errorOf(p, list); thinner(list, thinnest[e]) {
			thinnest[e] = list
		}
	}
	for e := range 99 {
		if thinner(thinnest[e], thinnest[e+1]) {
			thinnest[e+1] = thinnest[e]
		}
	}
	return thinnest
}

// atEachThinnest calls a check for profiles with what thinnestOf returns of them.
func atEachThinnest(check func(p []int, thinnest [100][]int)) {
	for _, p := range profiles() {
		if len(p) <= 8 {
			check(p, thinnestOf(p))
		}
	}
	for _, p := range longProfiles() {
		check(p, thinnestOf(p))
	}
}

func greedyOf(p []int, e int) []int {
	list := []int{0}
	for i := 0; i < len(p)-1; {
		farthest := i
		for k := i + 1; k < len(p); k++ {
			if errorOf(p, []int{i, k}) <= e {
				farthest = k
			}
		}
		list, i = append(list, farthest), farthest
	}
	return list
}

// atEachThinning calls a check for profiles and lists to which they are thinned.
func atEachThinning(check func(p, list []int)) {
	for _, p := range profiles() {
		for _, list := range someThinnings(len(p)) {
			check(p, list)
		}
	}
}

// atEachNoThinning calls a check for lists of which ThinValid does not hold.
func atEachNoThinning(check func(name string, p, list []int)) {
	for points := 1; points <= 20; points++ {
		for name, list := range noThinnings(points) {
			check("a list with "+name, flatLine(points, 50), list)
		}
	}
	for name, bad := range badProfiles() {
		for _, list := range [][]int{nil, {0}, {0, 1}, {0, len(bad) - 1}, allPoints(len(bad))} {
			check(name, bad, list)
		}
	}
}

// fromBehind returns a list with its points counted from the end.
func fromBehind(points int, list []int) []int {
	var other []int
	for _, j := range slices.Backward(list) {
		other = append(other, points-1-j)
	}
	return other
}

// These are for profiles, lists and errors with which the functions succeed.

func thinBest(t *testing.T, p []int, e int) []int {
	t.Helper()
	x, ok := impl.ThinBest(p, e)
	if !ok {
		t.Fatalf("ThinBest(%v, %d) failed", p, e)
	}
	return x
}

func thinned(t *testing.T, p, list []int) []int {
	t.Helper()
	x, ok := impl.ThinProfile(p, list)
	if !ok {
		t.Fatalf("ThinProfile(%v, %v) failed", p, list)
	}
	return x
}
