package nest_test

import (
	"math"
	"reflect"
	"slices"
	"testing"

	"clew/api"
	"clew/nest"
)

// within is that x is y, or is below it.
func (k kids) within(count, x, y int) bool {
	return isThing(count, x) && (x == y || slices.Contains(k.below(y), x))
}

// movedAs is that Move of x into to answers what is to come of k.
func movedAs(t *testing.T, count int, k kids, x, to int) {
	t.Helper()
	w, want := planted(count, k), api.OK
	switch {
	case !isThing(count, x) || !isThing(count, to):
		want = api.ErrNone
	case k.within(count, to, x):
		want = api.ErrState
	default:
		k = k.with(x, to)
	}
	v, e := nest.Move(w, x, to)
	answered(t, v, e, planted(count, k), want)
}

// removedAs is that Remove of x answers what is to come of k.
func removedAs(t *testing.T, count int, k kids, x int) {
	t.Helper()
	w, want := planted(count, k), api.OK
	if !isThing(count, x) {
		want = api.ErrNone
	} else {
		k = k.without(x)
	}
	v, e := nest.Remove(w, x)
	answered(t, v, e, planted(count, k), want)
}

// answered is that got and e are what is wanted, and that got is valid.
func answered(t *testing.T, got api.World, e api.Errno, want api.World, wanted api.Errno) {
	t.Helper()
	if e != wanted {
		t.Fatalf("error %d, not %d", int(e), int(wanted))
	}
	check(t, "the answer", got, want)
	if !nest.Right(got) {
		t.Fatalf("%+v is not right", got)
	}
}

// linked is the grove with other Parents, Childs and Nexts, by the things that have others.
func linked(parent, child, next map[int]int) api.World {
	w := grove()
	for x, y := range parent {
		w.Parent[x] = y
	}
	for x, y := range child {
		w.Child[x] = y
	}
	for x, y := range next {
		w.Next[x] = y
	}
	return w
}

type to = map[int]int

func TestMove(t *testing.T) {
	for _, row := range []struct {
		what                string
		x, to               int
		parent, child, next map[int]int
	}{
		{"the head of a list into a thing with children", 1, 5, to{1: 5}, to{2: 5, 5: 1}, to{1: 8}},
		{"the middle of a list into a thing without", 5, 10, to{5: 10}, to{10: 5}, to{1: 3, 5: 0}},
		{"the middle of a list into a thing with a child", 5, 6, to{5: 6}, to{6: 5}, to{1: 3, 5: 9}},
		{"the end of a list into a thing without", 3, 8, to{3: 8}, to{8: 3}, to{5: 0}},
		{"the end of a list of two", 4, 2, to{4: 2}, to{2: 4}, to{8: 0, 4: 1}},
		{"the head of a list of two", 8, 10, to{8: 10}, to{5: 4, 10: 8}, to{8: 0}},
		{"all of a list", 9, 1, to{9: 1}, to{6: 0, 1: 9}, nil},
		{"from nothing", 10, 2, to{10: 2}, to{2: 10}, to{10: 1}},
		{"from nothing into a thing without children", 10, 3, to{10: 3}, to{3: 10}, nil},
		{"from nothing, with what is in it", 6, 7, to{6: 7}, to{7: 6}, nil},
		{"out of what is in the place", 7, 5, to{7: 5}, to{4: 0, 5: 7}, to{7: 8}},
		{"beside what is in it", 4, 9, to{4: 9}, to{9: 4}, to{8: 0}},
		{"into the next one of the list", 1, 3, to{1: 3}, to{2: 5, 3: 1}, to{1: 0}},
		{"into the previous one of the list", 5, 1, to{5: 1}, to{1: 5}, to{1: 3, 5: 0}},
		{"the head to where it is", 1, 2, nil, nil, nil},
		{"the middle to where it is", 5, 2, nil, to{2: 5}, to{5: 1, 1: 3}},
		{"the end to where it is", 3, 2, nil, to{2: 3}, to{3: 1, 5: 0}},
		{"the only one to where it is", 7, 4, nil, nil, nil},
	} {
		t.Run(row.what, func(t *testing.T) {
			v, e := nest.Move(grove(), row.x, row.to)
			answered(t, v, e, linked(row.parent, row.child, row.next), api.OK)
		})
	}
}

func TestMoveErrors(t *testing.T) {
	refused := func(x, to int, want api.Errno) {
		t.Helper()
		v, e := nest.Move(grove(), x, to)
		answered(t, v, e, grove(), want)
	}
	for _, bad := range []int{0, -1, -2, 11, 12, math.MinInt, math.MaxInt, 1 << 16, 1<<32 + 1} {
		for x := 1; x < pastGrove; x++ {
			refused(bad, x, api.ErrNone)
			refused(x, bad, api.ErrNone)
		}
		// Both errors: no thing, and in itself.
		refused(bad, bad, api.ErrNone)
		refused(bad, 0, api.ErrNone)
		refused(0, bad, api.ErrNone)
		refused(bad, 11, api.ErrNone)
	}
	for x := 1; x < pastGrove; x++ {
		refused(x, x, api.ErrState)
	}
	for _, row := range [][2]int{{2, 1}, {2, 5}, {2, 3}, {5, 8}, {5, 4}, {4, 7}, {6, 9}, {2, 8}, {2, 4}, {5, 7}, {2, 7}} {
		refused(row[0], row[1], api.ErrState)
	}
	for _, w := range withoutThings() {
		for _, x := range numbers(2) {
			v, e := nest.Move(w, x, 1)
			check(t, "a world without things", v, w)
			u, f := nest.Move(w, x, x)
			check(t, "a world without things", u, w)
			if e != api.ErrNone || f != api.ErrNone {
				t.Errorf("%d: errors %d, %d", x, int(e), int(f))
			}
		}
	}
}

func TestRemove(t *testing.T) {
	for _, row := range []struct {
		what                string
		x                   int
		parent, child, next map[int]int
	}{
		{"the head of a list", 1, to{1: 0}, to{2: 5}, to{1: 0}},
		{"the middle of a list, with children", 5, to{5: 0}, nil, to{1: 3, 5: 0}},
		{"the end of a list", 3, to{3: 0}, nil, to{5: 0}},
		{"the head of a list of two", 8, to{8: 0}, to{5: 4}, to{8: 0}},
		{"the end of a list of two, with a child", 4, to{4: 0}, nil, to{8: 0}},
		{"all of a list", 7, to{7: 0}, to{4: 0}, nil},
		{"all of another list", 9, to{9: 0}, to{6: 0}, nil},
		{"from nothing", 10, nil, nil, nil},
		{"from nothing, with children", 2, nil, nil, nil},
		{"from nothing, with a child", 6, nil, nil, nil},
	} {
		t.Run(row.what, func(t *testing.T) {
			v, e := nest.Remove(grove(), row.x)
			answered(t, v, e, linked(row.parent, row.child, row.next), api.OK)
			same(t, "children", row.x, nest.Children(v, row.x), nest.Children(grove(), row.x))
		})
	}
	for _, bad := range []int{0, -1, -2, 11, 12, math.MinInt, math.MaxInt, 1 << 16, 1<<32 + 1} {
		v, e := nest.Remove(grove(), bad)
		answered(t, v, e, grove(), api.ErrNone)
	}
	for _, w := range withoutThings() {
		for _, x := range numbers(2) {
			v, e := nest.Remove(w, x)
			check(t, "a world without things", v, w)
			if e != api.ErrNone {
				t.Errorf("%d: error %d", x, int(e))
			}
		}
	}
}

// TestManyMoves is that moves of as many things as there may be, one after another, answer what they must.
func TestManyMoves(t *testing.T) {
	d := &dice{state: 20}
	k := kids{}
	w := planted(api.MaxThings, k)
	done := map[api.Errno]int{}
	for range 3000 {
		// Few of them contain others, so that lists are long and things are deep.
		x, into := d.below(api.MaxThings+1), one(d, d.below(12), d.below(api.MaxThings+1))
		v, e := api.World{}, api.OK
		if d.below(8) == 0 {
			removedAs(t, api.MaxThings, k, x)
			v, e = nest.Remove(w, x)
			k = k.without(x)
		} else {
			movedAs(t, api.MaxThings, k, x, into)
			v, e = nest.Move(w, x, into)
			if e == api.OK {
				k = k.with(x, into)
			}
		}
		w = v
		done[e]++
		check(t, "what has come", w, planted(api.MaxThings, k))
	}
	if done[api.OK] < 1000 || done[api.ErrNone] < 20 || done[api.ErrState] < 20 {
		t.Error("few moves of a kind:", done)
	}
	for x := range api.MaxThings {
		same(t, "children", x, nest.Children(w, x), k[x])
		same(t, "below", x, nest.Below(w, x), k.below(x))
	}
}

// answers are what the functions answer, of worlds and lists.
func answers(w api.World, x, y int) (worlds []api.World, lists [][]int) {
	moved, _ := nest.Move(w, x, y)
	removed, _ := nest.Remove(w, x)
	return []api.World{moved, removed}, [][]int{nest.Children(w, x), nest.Below(w, x)}
}

// TestNothingIsShared is that no call changes what it is given, and that no answer shares memory with it or with another one, also with an error.
func TestNothingIsShared(t *testing.T) {
	for _, w := range append(withoutThings(), grove(), single(), linked(nil, to{10: 3}, nil), linked(to{6: 9}, to{9: 6}, nil)) {
		for x := -1; x <= 11; x++ {
			for y := -1; y <= 11; y++ {
				given := twin(w)
				kept := whole(given)
				worlds, lists := answers(given, x, y)
				wanted, wantedLists := answers(twin(w), x, y)
				nest.Is(given, x)
				nest.Within(given, x, y)
				nest.Top(given, x)
				nest.Right(given)
				for _, v := range worlds {
					spoil(v)
				}
				for _, l := range lists {
					spoilList(l)
				}
				if !reflect.DeepEqual(whole(given), kept) {
					t.Fatalf("%d, %d: %+v\nbecame\n%+v", x, y, kept, whole(given))
				}
				worlds, lists = answers(given, x, y)
				spoil(given)
				for i := range worlds {
					check(t, "an answer whose argument changes", worlds[i], wanted[i])
					same(t, "an answer whose argument changes", x, lists[i], wantedLists[i])
				}
			}
		}
	}
}

// TestListsOfAnAnswer is that no two lists of an answer share memory, not even if those of the argument do.
func TestListsOfAnAnswer(t *testing.T) {
	shared := make([]int, 6, 20)
	w := api.World{Globals: shared[:3], Parent: shared, Child: shared, Next: shared, Flags: shared, Props: shared[:12], Timers: shared[:2]}
	want := api.World{Globals: make([]int, 3), Parent: make([]int, 6), Child: make([]int, 6), Next: make([]int, 6), Flags: make([]int, 6), Props: make([]int, 12), Timers: make([]int, 2)}
	for _, x := range []int{0, 3} {
		v, e := nest.Remove(w, x)
		check(t, "what is removed", v, want)
		if (e == api.OK) != (x == 3) {
			t.Error(x, int(e))
		}
		apart(t, func() api.World { v, _ := nest.Remove(w, x); return v })
		apart(t, func() api.World { v, _ := nest.Move(w, x, 3); return v })
		apart(t, func() api.World { v, _ := nest.Move(w, 4, x); return v })
	}
	want.Parent[4], want.Child[3] = 3, 4
	v, _ := nest.Move(w, 4, 3)
	check(t, "what is moved", v, want)
}

// apart is that the lists of what make answers share no memory.
func apart(t *testing.T, make func() api.World) {
	t.Helper()
	want := make()
	for name := range lists(&want) {
		w := make()
		all := lists(&w)
		spoilList(*all[name])
		for other, l := range all {
			if other != name && !slices.Equal(*l, *lists(&want)[other]) {
				t.Errorf("%s changes with %s", other, name)
			}
		}
	}
}
