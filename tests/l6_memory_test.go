package tests

import (
	"slices"
	"testing"

	"loop.example/reliefmaps/impl"
)

type thinCall struct {
	name string
	run  func(p, list []int) ([]int, bool)
}

// thinLists has the calls of the chapter that return a list.
func thinLists() []thinCall {
	return []thinCall{
		{"ThinBest with 0", func(p, _ []int) ([]int, bool) { return impl.ThinBest(p, 0) }},
		{"ThinBest with 50", func(p, _ []int) ([]int, bool) { return impl.ThinBest(p, 50) }},
		{"ThinBest with -1", func(p, _ []int) ([]int, bool) { return impl.ThinBest(p, -1) }},
		{"ThinGreedy with 0", func(p, _ []int) ([]int, bool) { return impl.ThinGreedy(p, 0) }},
		{"ThinGreedy with 50", func(p, _ []int) ([]int, bool) { return impl.ThinGreedy(p, 50) }},
		{"ThinGreedy with 100", func(p, _ []int) ([]int, bool) { return impl.ThinGreedy(p, 100) }},
		{"ThinProfile", impl.ThinProfile},
		{"ThinHalf", func(p, _ []int) ([]int, bool) { return impl.ThinHalf(p) }},
		{"ThinDrop of place 1", func(p, list []int) ([]int, bool) { return impl.ThinDrop(p, list, 1) }},
		{"ThinDrop of the last place but one", func(p, list []int) ([]int, bool) { return impl.ThinDrop(p, list, len(list)-2) }},
		{"ThinDrop of the last place", func(p, list []int) ([]int, bool) { return impl.ThinDrop(p, list, len(list)-1) }},
		{"ThinJoin with a point behind", func(p, list []int) ([]int, bool) {
			if len(p) == 0 {
				return impl.ThinJoin(p, list, p, list)
			}
			return impl.ThinJoin(p, list, p[len(p)-1:], []int{0})
		}},
		{"ThinJoin with a point ahead", func(p, list []int) ([]int, bool) {
			if len(p) == 0 {
				return impl.ThinJoin(p, list, p, list)
			}
			return impl.ThinJoin(p[:1], []int{0}, p, list)
		}},
		{"ThinJoin with itself", func(p, list []int) ([]int, bool) { return impl.ThinJoin(p, list, p, list) }},
	}
}

// thinReaders has the calls of the chapter that return numbers.
func thinReaders() []thinCall {
	truth := func(is bool) []int {
		if is {
			return []int{1}
		}
		return []int{0}
	}
	return []thinCall{
		{"ThinValid", func(p, list []int) ([]int, bool) { return truth(impl.ThinValid(p, list)), true }},
		{"ThinError", func(p, list []int) ([]int, bool) { return []int{impl.ThinError(p, list)}, true }},
		{"ThinKeeps", func(p, list []int) ([]int, bool) { return truth(impl.ThinKeeps(p, list, 5)), true }},
		{"ThinFewest", func(p, _ []int) ([]int, bool) { return []int{impl.ThinFewest(p, 5)}, true }},
		{"ThinLeast", func(p, _ []int) ([]int, bool) { return []int{impl.ThinLeast(p, 3)}, true }},
	}
}

// checkThinMemory fails if a call changes an argument, or if its result shares memory with one or with a later result.
func checkThinMemory(t *testing.T, call thinCall, p, list []int) {
	t.Helper()
	x, y := longer(p), longer(list)
	first, ok := call.run(x, y)
	kept := slices.Clone(first)
	second, _ := call.run(x, y)
	if !longerStays(x, p) || !longerStays(y, list) {
		t.Fatalf("%s changed its arguments %v and %v", call.name, p, list)
	}
	for i := range first[:cap(first)] {
		first[:cap(first)][i] = mark - 1
	}
	if !longerStays(x, p) || !longerStays(y, list) {
		t.Fatalf("%s of %v and %v shares memory with its arguments", call.name, p, list)
	}
	third, fine := call.run(x, y)
	if ok != fine || !slices.Equal(second, kept) || !slices.Equal(third, kept) {
		t.Fatalf("%s of %v and %v is %v, then %v and %v", call.name, p, list, kept, second, third)
	}
}

// Promises 63 to 73.
func TestThinMemory(t *testing.T) {
	calls := append(thinLists(), thinReaders()...)
	for _, p := range fewerProfiles() {
		for _, list := range someThinnings(len(p)) {
			for _, call := range calls {
				checkThinMemory(t, call, p, list)
			}
		}
	}
}

// Promise 73: neither of two different profiles nor their lists change, nor do they share memory with the result.
func TestThinJoinMemory(t *testing.T) {
	p, q := rule(9, func(i int) int { return 40 + i }), rule(12, func(i int) int { return 48 - 2*i })
	for _, b := range someThinnings(len(q)) {
		x, y := longer(q), longer(b)
		join := thinCall{"ThinJoin of two", func(p, list []int) ([]int, bool) { return impl.ThinJoin(p, list, x, y) }}
		for _, a := range someThinnings(len(p)) {
			checkThinMemory(t, join, p, a)
			if !longerStays(x, q) || !longerStays(y, b) {
				t.Fatalf("ThinJoin(%v, %v, %v, %v) changed its arguments or shares memory with them", p, a, q, b)
			}
		}
	}
}

// Invalid arguments stay as they are.
func TestBadThinningsStay(t *testing.T) {
	calls := append(thinLists(), thinReaders()...)
	atEachNoThinning(func(name string, p, list []int) {
		if len(p) > 50 || len(list) > 50 {
			return
		}
		for _, call := range calls {
			checkThinMemory(t, call, p, list)
		}
	})
}
