package nest_test

import (
	"fmt"
	"math"
	"reflect"
	"slices"
	"testing"

	"clew/api"
)

// The things of the grove, as a reader sees them: 2(1 5(8 4(7)) 3) 6(9) 10.
const pastGrove = 11

// grove is a valid world each of whose fields has something.
func grove() api.World {
	w := furnished(pastGrove)
	w.Parent = []int{0, 2, 0, 2, 5, 2, 0, 4, 5, 6, 0}
	w.Child = []int{0, 0, 1, 0, 7, 8, 9, 0, 0, 0, 0}
	w.Next = []int{0, 5, 0, 0, 0, 3, 0, 0, 4, 0, 0}
	return w
}

// furnished is a world with something in each field but those of the containment tree, for that many things and the nothing.
func furnished(count int) api.World {
	w := api.World{Globals: []int{5, -6, 40000}, Timers: []int{0, 32767}, Seed: 1 << 63, Score: -5, Turns: 12, Over: 2, It: 3, Go: 9}
	for x := range count {
		w.Flags, w.Props = append(w.Flags, x%64), append(w.Props, x, -x)
	}
	return w
}

// kids are the lists of children of things that have any.
type kids map[int][]int

// planted is the world with that many things and the nothing where these are the children.
func planted(count int, k kids) api.World {
	w := furnished(count)
	w.Parent, w.Child, w.Next = make([]int, count), make([]int, count), make([]int, count)
	for x, list := range k {
		last := &w.Child[x]
		for _, y := range list {
			*last, w.Parent[y] = y, x
			last = &w.Next[y]
		}
	}
	return w
}

// isThing is that x is one of the things where there are that many with the nothing.
func isThing(count, x int) bool { return 0 < x && x < count }

// holder is the thing in whose list x is; 0: none.
func (k kids) holder(x int) int {
	for y, list := range k {
		if slices.Contains(list, x) {
			return y
		}
	}
	return 0
}

// below is what is in x, and in these.
func (k kids) below(x int) []int {
	var l []int
	for _, y := range k[x] {
		l = append(append(l, y), k.below(y)...)
	}
	return l
}

// without is k where x is in no list.
func (k kids) without(x int) kids {
	left := kids{}
	for y, list := range k {
		left[y] = slices.DeleteFunc(slices.Clone(list), func(z int) bool { return z == x })
	}
	return left
}

// with is k where x is the first child of to, and in no other list.
func (k kids) with(x, to int) kids {
	moved := k.without(x)
	moved[to] = append([]int{x}, moved[to]...)
	return moved
}

// top is the thing in nothing that is x or has x below it; 0: x is no thing.
func (k kids) top(count, x int) int {
	for y := range count {
		if y > 0 && k.holder(y) == 0 && (y == x || slices.Contains(k.below(y), x)) {
			return y
		}
	}
	return 0
}

// forests are all ways in which that many things, with the nothing, can be in one another: what comes of moving them, again and again.
func forests(count int) []kids {
	all, known := []kids{}, map[string]bool{}
	add := func(k kids) {
		w := planted(count, k)
		if text := fmt.Sprint(w.Parent, w.Child, w.Next); !known[text] {
			known[text] = true
			all = append(all, k)
		}
	}
	add(kids{})
	for i := 0; i < len(all); i++ {
		for x := 1; x < count; x++ {
			add(all[i].without(x))
			for to := 1; to < count; to++ {
				if to != x && !slices.Contains(all[i].below(x), to) {
					add(all[i].with(x, to))
				}
			}
		}
	}
	return all
}

// lists are the lists of w, by the names of its fields.
func lists(w *api.World) map[string]*[]int {
	l := map[string]*[]int{}
	v := reflect.ValueOf(w).Elem()
	for i := range v.NumField() {
		if list, ok := v.Field(i).Addr().Interface().(*[]int); ok {
			l[v.Type().Field(i).Name] = list
		}
	}
	return l
}

// twin is w in new memory; its lists have room behind their end, in which there is junk.
func twin(w api.World) api.World {
	for _, l := range lists(&w) {
		if *l != nil {
			*l = append(slices.Clone(*l), 77, 78, 79)[:len(*l)]
		}
	}
	return w
}

// whole is w with its lists up to their capacities, in new memory.
func whole(w api.World) api.World {
	for _, l := range lists(&w) {
		*l = slices.Clone((*l)[:cap(*l)])
	}
	return w
}

// spoil changes all elements of the lists of w, also behind their ends.
func spoil(w api.World) {
	for _, l := range lists(&w) {
		spoilList(*l)
	}
}

func spoilList(l []int) {
	for i := range l[:cap(l)] {
		l[:cap(l)][i] = ^l[:cap(l)][i] - 1000
	}
}

// plain is w with nil for empty lists.
func plain(w api.World) api.World {
	for _, l := range lists(&w) {
		if len(*l) == 0 {
			*l = nil
		}
	}
	return w
}

// check is that got is want.
func check(t *testing.T, what string, got, want api.World) {
	t.Helper()
	if !reflect.DeepEqual(plain(got), plain(want)) {
		t.Fatalf("%s is\n%+v, not\n%+v", what, got, want)
	}
}

// numbers are those about the things, where there are that many with the nothing, and far ones.
func numbers(count int) []int {
	l := []int{math.MinInt, math.MinInt32, -1 << 16, -2, math.MaxInt, math.MaxInt32, 1 << 16, 1<<16 + 1, 1 << 32, 1<<32 + 1}
	for x := -1; x <= count+1; x++ {
		l = append(l, x)
	}
	return l
}

// dice is a source of numbers that are the same in every run.
type dice struct{ state uint64 }

func (d *dice) below(n int) int {
	d.state = d.state*6364136223846793005 + 1442695040888963407
	return int(d.state>>33) % n
}

// one is one of a list.
func one[T any](d *dice, l ...T) T { return l[d.below(len(l))] }
