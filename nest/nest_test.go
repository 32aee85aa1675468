package nest_test

import (
	"math"
	"slices"
	"testing"

	"clew/api"
	"clew/nest"
)

// single is the world of one thing.
func single() api.World { return planted(2, kids{}) }

// withoutThings are the worlds in which there is no thing.
func withoutThings() []api.World {
	return []api.World{{}, planted(1, kids{}), {Parent: []int{}, Child: []int{}, Next: []int{}}, {Globals: []int{1}, Flags: []int{1, 2}, Props: []int{3}, It: 1}}
}

// same is that the lists are equal.
func same(t *testing.T, what string, x int, got, want []int) {
	t.Helper()
	if !slices.Equal(got, want) {
		t.Errorf("%s of %d: %v, not %v", what, x, got, want)
	}
}

func TestIs(t *testing.T) {
	for count := range 8 {
		for _, x := range numbers(count) {
			if got := nest.Is(planted(count, kids{}), x); got != (1 <= x && x < count) {
				t.Errorf("%d among %d: %v", x, count, got)
			}
		}
	}
	for _, row := range []struct {
		x  int
		is bool
	}{{math.MinInt, false}, {-11, false}, {-1, false}, {0, false}, {1, true}, {2, true}, {10, true}, {11, false}, {12, false}, {math.MaxInt, false}} {
		if nest.Is(grove(), row.x) != row.is {
			t.Errorf("%d in the grove: %v", row.x, !row.is)
		}
	}
	if w := planted(api.MaxThings, kids{}); !nest.Is(w, 127) || nest.Is(w, 128) {
		t.Error("127 things are not those from 1 to 127")
	}
	for _, w := range withoutThings() {
		for _, x := range numbers(2) {
			if nest.Is(w, x) {
				t.Errorf("%d is a thing of %+v", x, w)
			}
		}
	}
}

func TestChildren(t *testing.T) {
	for x, want := range map[int][]int{1: nil, 2: {1, 5, 3}, 3: nil, 4: {7}, 5: {8, 4}, 6: {9}, 7: nil, 8: nil, 9: nil, 10: nil, 0: nil, -1: nil, -2: nil, 11: nil, 12: nil, math.MinInt: nil, math.MaxInt: nil} {
		same(t, "children", x, nest.Children(grove(), x), want)
	}
	for _, order := range [][]int{{1, 2, 3, 5}, {5, 3, 2, 1}, {3, 1, 5, 2}, {2, 5}} {
		same(t, "children", 4, nest.Children(planted(6, kids{4: order}), 4), order)
	}
	same(t, "children", 1, nest.Children(single(), 1), nil)
}

func TestBelow(t *testing.T) {
	for x, want := range map[int][]int{1: nil, 2: {1, 5, 8, 4, 7, 3}, 3: nil, 4: {7}, 5: {8, 4, 7}, 6: {9}, 7: nil, 8: nil, 9: nil, 10: nil, 0: nil, -1: nil, -2: nil, 11: nil, 12: nil, math.MinInt: nil, math.MaxInt: nil} {
		same(t, "below", x, nest.Below(grove(), x), want)
	}
	comb := kids{9: {2, 8}, 2: {1, 7}, 8: {6, 3}, 1: {5}, 6: {4}}
	same(t, "below", 9, nest.Below(planted(10, comb), 9), []int{2, 1, 5, 7, 8, 6, 4, 3})
	same(t, "below", 2, nest.Below(planted(10, comb), 2), []int{1, 5, 7})
	same(t, "below", 1, nest.Below(single(), 1), nil)
}

func TestWithin(t *testing.T) {
	inside := map[int][]int{1: {1, 2}, 2: {2}, 3: {3, 2}, 4: {4, 5, 2}, 5: {5, 2}, 6: {6}, 7: {7, 4, 5, 2}, 8: {8, 5, 2}, 9: {9, 6}, 10: {10}}
	for _, x := range numbers(pastGrove) {
		for _, y := range numbers(pastGrove) {
			if got := nest.Within(grove(), x, y); got != slices.Contains(inside[x], y) {
				t.Errorf("%d within %d: %v", x, y, got)
			}
		}
	}
	if w := single(); !nest.Within(w, 1, 1) || nest.Within(w, 1, 0) || nest.Within(w, 0, 0) || nest.Within(w, 0, 1) || nest.Within(w, 2, 2) {
		t.Error("of one thing, another one than itself is within itself")
	}
}

func TestTop(t *testing.T) {
	tops := map[int]int{1: 2, 2: 2, 3: 2, 4: 2, 5: 2, 6: 6, 7: 2, 8: 2, 9: 6, 10: 10}
	for _, x := range numbers(pastGrove) {
		if got := nest.Top(grove(), x); got != tops[x] {
			t.Errorf("the top of %d is %d, not %d", x, got, tops[x])
		}
	}
	if nest.Top(single(), 1) != 1 || nest.Top(single(), 0) != 0 || nest.Top(single(), 2) != 0 {
		t.Error("the top of one thing")
	}
}

func TestExample(t *testing.T) {
	w := planted(5, kids{})
	for _, x := range []int{3, 4} {
		v, e := nest.Move(w, x, 2)
		if e != api.OK {
			t.Fatal(x, int(e))
		}
		w = v
	}
	same(t, "children", 2, nest.Children(w, 2), []int{4, 3})
	if v, e := nest.Move(w, 2, 3); e != api.ErrState || nest.Top(v, 4) != 2 || nest.Top(w, 4) != 2 {
		t.Errorf("2 into 3: error %d, %+v", int(e), v)
	}
}

// TestWithoutThings is that there is nothing in worlds without things.
func TestWithoutThings(t *testing.T) {
	for _, w := range withoutThings() {
		for _, x := range numbers(2) {
			same(t, "children", x, nest.Children(w, x), nil)
			same(t, "below", x, nest.Below(w, x), nil)
			if nest.Top(w, x) != 0 || nest.Within(w, x, x) || nest.Within(w, x, 0) || nest.Within(w, 0, x) || nest.Within(w, 1, x) {
				t.Errorf("%d is something in %+v", x, w)
			}
		}
	}
}

// TestEveryForest compares all functions with the lists of children, for all ways in which up to five things can be in one another.
func TestEveryForest(t *testing.T) {
	for count, many := range []int{1: 1, 2: 1, 3: 3, 4: 19, 5: 193, 6: 2721} {
		if count == 0 {
			continue
		}
		all := forests(count)
		if len(all) != many {
			t.Fatalf("%d ways with %d things, not %d", len(all), count-1, many)
		}
		for _, k := range all {
			readAs(t, count, k)
			for x := -1; x <= count; x++ {
				removedAs(t, count, k, x)
				for to := -1; to <= count; to++ {
					movedAs(t, count, k, x, to)
				}
			}
		}
	}
}

// readAs is that what is in what is as k has it.
func readAs(t *testing.T, count int, k kids) {
	t.Helper()
	w := planted(count, k)
	if !nest.Right(w) {
		t.Fatalf("%v is not right", k)
	}
	for x := -1; x <= count; x++ {
		same(t, "children", x, nest.Children(w, x), k[x])
		same(t, "below", x, nest.Below(w, x), k.below(x))
		if nest.Is(w, x) != isThing(count, x) || nest.Top(w, x) != k.top(count, x) {
			t.Fatalf("%v: %d is a thing: %v; its top: %d", k, x, nest.Is(w, x), nest.Top(w, x))
		}
		for y := -1; y <= count; y++ {
			if nest.Within(w, x, y) != k.within(count, x, y) {
				t.Fatalf("%v: %d within %d: %v", k, x, y, nest.Within(w, x, y))
			}
		}
	}
	if t.Failed() {
		t.Fatalf("%v", k)
	}
}
