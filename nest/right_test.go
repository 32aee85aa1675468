package nest_test

import (
	"math"
	"slices"
	"sync"
	"testing"

	"clew/api"
	"clew/nest"
	"clew/world"
)

// sentence is one of those of layer 19 about the containment tree.
type sentence struct {
	text  string
	holds func(w api.World) bool
}

// every is that all things of w are so.
func every(w api.World, so func(x int) bool) bool {
	for x := 1; x < len(w.Parent); x++ {
		if !so(x) {
			return false
		}
	}
	return true
}

// list is the list that starts with the Child of x, and whether it consists of things, each once, and ends with 0.
func list(w api.World, x int) (l []int, right bool) {
	for y := w.Child[x]; y != 0; y = w.Next[y] {
		if !isThing(len(w.Parent), y) || slices.Contains(l, y) {
			return l, false
		}
		l = append(l, y)
	}
	return l, true
}

// inItself is that x comes again among the parents of x.
func inItself(w api.World, x int) bool {
	y := w.Parent[x]
	for range w.Parent {
		if !isThing(len(w.Parent), y) || y == x {
			break
		}
		y = w.Parent[y]
	}
	return y == x
}

// sentences are those of the definition; all but the first one need it to hold.
func sentences() []sentence {
	return []sentence{
		{"lengths", func(w api.World) bool {
			return len(w.Parent) == len(w.Child) && len(w.Child) == len(w.Next) && len(w.Next) >= 1
		}},
		{"elements 0", func(w api.World) bool { return w.Parent[0] == 0 && w.Child[0] == 0 && w.Next[0] == 0 }},
		{"parents", func(w api.World) bool {
			return every(w, func(x int) bool { return w.Parent[x] == 0 || isThing(len(w.Parent), w.Parent[x]) })
		}},
		{"nothing behind what is in nothing", func(w api.World) bool {
			return every(w, func(x int) bool { return w.Parent[x] != 0 || w.Next[x] == 0 })
		}},
		{"lists", func(w api.World) bool {
			return every(w, func(x int) bool {
				l, right := list(w, x)
				return right && !slices.ContainsFunc(l, func(y int) bool { return w.Parent[y] != x })
			})
		}},
		{"listed", func(w api.World) bool {
			return every(w, func(x int) bool {
				if !isThing(len(w.Parent), w.Parent[x]) {
					return true
				}
				l, _ := list(w, w.Parent[x])
				return slices.Contains(l, x)
			})
		}},
		{"not inside itself", func(w api.World) bool { return every(w, func(x int) bool { return !inItself(w, x) }) }},
	}
}

// brokenBy are the sentences that do not hold for w.
func brokenBy(w api.World) []string {
	var broken []string
	for i, s := range sentences() {
		switch {
		case i == 0 && !s.holds(w):
			return []string{s.text}
		case !s.holds(w):
			broken = append(broken, s.text)
		}
	}
	return broken
}

// asRead is that Right answers what the sentences have, and whether it is right.
func asRead(t *testing.T, w api.World) bool {
	t.Helper()
	right := nest.Right(w)
	if broken := brokenBy(w); right != (len(broken) == 0) {
		t.Fatalf("%v, %v, %v: %v, but broken: %q", w.Parent, w.Child, w.Next, right, broken)
	}
	return right
}

// turn makes another world of the grove.
type turn func(w *api.World)

// wrong is that each of the turns breaks that sentence alone, so that the grove is not right.
func wrong(t *testing.T, sentence string, turns ...turn) {
	t.Helper()
	for i, c := range turns {
		w := grove()
		c(&w)
		if broken := brokenBy(w); !slices.Equal(broken, []string{sentence}) {
			t.Errorf("%s, turn %d: the sentences broken are %q", sentence, i, broken)
		}
		if nest.Right(w) {
			t.Errorf("%s, turn %d: right", sentence, i)
		}
	}
}

// set is the turns of an element of a list to each of the values.
func set(name string, x int, values ...int) []turn {
	var l []turn
	for _, n := range values {
		l = append(l, func(w *api.World) { (*lists(w)[name])[x] = n })
	}
	return l
}

// noThings are numbers but 0 that are not those of a thing of the grove.
func noThings() []int {
	return []int{-1, -2, -10, 11, 12, 22, 1 << 16, 1<<32 + 1, math.MinInt, math.MaxInt}
}

func TestRight(t *testing.T) {
	for _, w := range []api.World{grove(), single(), planted(1, kids{}), planted(128, kids{}), planted(4, kids{3: {1}, 1: {2}}), {Parent: []int{0}, Child: []int{0}, Next: []int{0}}, {Parent: []int{0, 2, 0}, Child: []int{0, 0, 1}, Next: []int{0, 0, 0}},
		{Parent: []int{0, 0, 1, 1}, Child: []int{0, 3, 0, 0}, Next: []int{0, 0, 0, 2}, Over: -5, Flags: []int{-1}, It: 99}} {
		if !asRead(t, w) {
			t.Errorf("%+v is not right", w)
		}
	}
	for _, w := range []api.World{{}, {Globals: []int{0}, Flags: []int{0}}, {Parent: []int{}, Child: []int{}, Next: []int{}}} {
		if asRead(t, w) {
			t.Errorf("%+v is right", w)
		}
	}
}

func TestRightLengths(t *testing.T) {
	for _, name := range []string{"Parent", "Child", "Next"} {
		wrong(t, "lengths", func(w *api.World) { *lists(w)[name] = nil }, func(w *api.World) { *lists(w)[name] = []int{} }, func(w *api.World) { *lists(w)[name] = []int{0} },
			func(w *api.World) { l := lists(w)[name]; *l = (*l)[:10] }, func(w *api.World) { l := lists(w)[name]; *l = append(*l, 0) }, func(w *api.World) { l := lists(w)[name]; *l = append(*l, make([]int, 200)...) })
	}
	wrong(t, "lengths", func(w *api.World) { w.Parent, w.Child, w.Next = nil, nil, nil }, func(w *api.World) { w.Parent, w.Child, w.Next = []int{0}, nil, nil },
		func(w *api.World) { w.Parent, w.Child, w.Next = nil, []int{0}, []int{0} }, func(w *api.World) { w.Parent, w.Child = append(w.Parent, 0), append(w.Child, 0) },
		func(w *api.World) { w.Child, w.Next = append(w.Child, 0), append(w.Next, 0) }, func(w *api.World) { w.Parent, w.Next = append(w.Parent, 0), append(w.Next, 0) })
}

func TestRightNumbers(t *testing.T) {
	for _, n := range append(noThings(), 1, 2, 3, 10) {
		wrong(t, "elements 0", set("Child", 0, n)...)
		wrong(t, "elements 0", set("Parent", 0, n)...)
		wrong(t, "elements 0", set("Next", 0, n)...)
	}
	for _, n := range noThings() {
		wrong(t, "parents", set("Parent", 10, n)...)
		wrong(t, "lists", set("Child", 1, n)...)
		wrong(t, "lists", set("Child", 10, n)...)
		wrong(t, "lists", set("Next", 3, n)...)
		wrong(t, "lists", set("Next", 7, n)...)
		for x := 1; x < pastGrove; x++ {
			for _, name := range []string{"Parent", "Child", "Next"} {
				w := grove()
				set(name, x, n)[0](&w)
				if asRead(t, w) {
					t.Errorf("%s of %d is %d: right", name, x, n)
				}
			}
		}
	}
	wrong(t, "nothing behind what is in nothing", set("Next", 10, append(noThings(), 1, 2, 3, 6, 10)...)...)
	wrong(t, "nothing behind what is in nothing", set("Next", 2, append(noThings(), 1, 2, 3, 6, 10)...)...)
}

func TestRightLists(t *testing.T) {
	turns := func(l ...[]turn) []turn { return slices.Concat(l...) }
	wrong(t, "lists", turns(
		set("Next", 3, 1, 5, 3), set("Next", 7, 7), set("Next", 9, 9), set("Next", 4, 8, 4), // without an end, and a thing twice
		set("Next", 3, 2, 6, 7, 8, 9, 10), set("Next", 9, 1, 3, 7, 10), set("Child", 1, 1, 2, 3, 9, 10), set("Child", 10, 10, 6, 7, 1), // a thing whose parent is another one
	)...)
	wrong(t, "listed", turns(set("Child", 6, 0), set("Child", 4, 0), set("Child", 5, 0, 4), set("Child", 2, 0, 3, 5), set("Next", 1, 0, 3), set("Next", 5, 0), set("Next", 8, 0), set("Parent", 10, 2, 5, 6, 1, 9))...)
	wrong(t, "listed", func(w *api.World) { w.Child[6], w.Next[9] = 0, 9 }, func(w *api.World) { w.Child[2], w.Next[1], w.Next[5] = 3, 5, 1 })
}

func TestRightInside(t *testing.T) {
	wrong(t, "not inside itself", func(w *api.World) { w.Parent[10], w.Child[10] = 10, 10 }, func(w *api.World) { w.Parent[6], w.Child[9] = 9, 6 }, func(w *api.World) { w.Parent[2], w.Child[7] = 7, 2 },
		func(w *api.World) { w.Parent[2], w.Child[3] = 3, 2 }, func(w *api.World) { w.Parent[2], w.Child[4], w.Next[7] = 4, 7, 2 }, func(w *api.World) { w.Parent[2], w.Child[4], w.Next[2] = 4, 2, 7 },
		func(w *api.World) { w.Parent[2], w.Child[2], w.Next[2] = 2, 2, 1 }, func(w *api.World) { w.Parent[6], w.Child[9], w.Parent[10], w.Next[6] = 9, 6, 9, 10 },
		func(w *api.World) { w.Parent[6], w.Next[3], w.Parent[2], w.Child[9] = 2, 6, 9, 2 })
	for _, length := range []int{1, 2, 3, 126, 127} {
		w := planted(128, kids{})
		for x := 1; x <= length; x++ {
			w.Parent[x], w.Child[x%length+1] = x%length+1, x
		}
		if broken := brokenBy(w); !slices.Equal(broken, []string{"not inside itself"}) || nest.Right(w) {
			t.Errorf("a circle of %d: broken %q, right: %v", length, broken, nest.Right(w))
		}
	}
}

// tried calls see for the worlds whose numbers are in [least, most], of things that many with the nothing; with first also elements 0.
func tried(count, least, most int, first bool, see func(w api.World)) {
	w := api.World{Parent: make([]int, count), Child: make([]int, count), Next: make([]int, count)}
	var places []*int
	for _, l := range [][]int{w.Parent, w.Child, w.Next} {
		for x := range l {
			if first || x > 0 {
				places = append(places, &l[x])
			}
		}
	}
	var fill func(i int)
	fill = func(i int) {
		if i == len(places) {
			see(w)
			return
		}
		for n := least; n <= most; n++ {
			*places[i] = n
			fill(i + 1)
		}
	}
	fill(0)
}

// TestRightSmall is Right for all worlds of few things whose numbers are among few.
func TestRightSmall(t *testing.T) {
	for _, row := range []struct {
		count, least, most int
		first              bool
		valid              int
	}{{1, -3, 3, true, 1}, {2, -1, 2, true, 1}, {3, 0, 2, true, 3}, {3, -1, 3, false, 3}, {4, 0, 3, false, 19}} {
		valid := 0
		tried(row.count, row.least, row.most, row.first, func(w api.World) {
			if asRead(t, w) {
				valid++
			}
		})
		if valid != row.valid {
			t.Errorf("%d worlds of %d are right, not %d", valid, row.count, row.valid)
		}
	}
	for i := range 4 * 4 * 4 {
		w := api.World{Parent: make([]int, i%4), Child: make([]int, i/4%4), Next: make([]int, i/16)}
		if right := asRead(t, w); right != (i%4 > 0 && i%4 == i/4%4 && i%4 == i/16) {
			t.Errorf("lengths %d, %d, %d: %v", i%4, i/4%4, i/16, right)
		}
	}
}

// anyForest is a valid world of things that many with the nothing.
func (d *dice) anyForest(count int) api.World {
	k := kids{}
	for x := 2; x < count; x++ {
		if into := d.below(x); into > 0 {
			k[into] = slices.Insert(k[into], d.below(len(k[into])+1), x)
		}
	}
	return d.renamed(planted(count, k))
}

// renamed is w where the things have other numbers.
func (d *dice) renamed(w api.World) api.World {
	count := len(w.Parent)
	names := make([]int, count)
	for x := 1; x < count; x++ {
		at := 1 + d.below(x)
		names[x], names[at] = names[at], x
	}
	v := furnished(count)
	v.Parent, v.Child, v.Next = make([]int, count), make([]int, count), make([]int, count)
	for x, name := range names {
		v.Parent[name], v.Child[name], v.Next[name] = names[w.Parent[x]], names[w.Child[x]], names[w.Next[x]]
	}
	return v
}

// TestRightAtRandom is Right for valid worlds at random in which some things are changed.
func TestRightAtRandom(t *testing.T) {
	d := &dice{state: 1}
	alone, valid := map[string]int{}, 0
	for range 3000 {
		w := d.anyForest(1 + d.below(9))
		if !asRead(t, w) {
			t.Fatalf("%+v is not right", w)
		}
		for range 10 {
			x := twin(w)
			for range 1 + d.below(3) {
				l := *one(d, &x.Parent, &x.Child, &x.Next)
				l[d.below(len(l))] = d.below(len(l)+2) - d.below(2)
			}
			if asRead(t, x) {
				valid++
			}
			if broken := brokenBy(x); len(broken) == 1 {
				alone[broken[0]]++
			}
		}
	}
	if valid < 100 || len(alone) < len(sentences())-1 {
		t.Error("few valid worlds, or few sentences broken alone:", valid, alone)
	}
}

// anything is any world.
func (d *dice) anything() api.World {
	list := func() []int {
		l := make([]int, d.below(6))
		for i := range l {
			l[i] = one(d, 0, 0, 1, 2, 3, 4, 5, 6, -1, math.MinInt, math.MaxInt)
		}
		return l
	}
	return api.World{Parent: list(), Child: list(), Next: list(), Globals: list(), It: d.below(9)}
}

// TestAnyWorld is that Right answers what it must for any world, and that all other calls end without a panic and change nothing.
func TestAnyWorld(t *testing.T) {
	d := &dice{state: 3}
	for range 20000 {
		w := d.anything()
		kept := whole(w)
		asRead(t, w)
		for x := -1; x < 8; x++ {
			most := max(0, len(w.Parent)-1)
			if len(nest.Children(w, x)) > most || len(nest.Below(w, x)) > most || !nest.Is(w, x) && len(nest.Children(w, x)) > 0 {
				t.Fatalf("%+v: %d has %v, and below %v", w, x, nest.Children(w, x), nest.Below(w, x))
			}
			y := d.below(9) - 1
			nest.Within(w, x, y)
			nest.Top(w, x)
			nest.Move(w, x, y)
			nest.Remove(w, x)
		}
		check(t, "a world that is read", whole(w), kept)
	}
	for _, n := range noThings() {
		nest.Right(api.World{Parent: []int{n}, Child: []int{n}, Next: []int{n}})
		nest.Right(api.World{Parent: []int{0, n, n}, Child: []int{0, n, n}, Next: []int{0, n, n}})
	}
}

// TestMuch is that all calls end soon for worlds that are far larger than those of stories.
func TestMuch(t *testing.T) {
	const count = 1 << 16
	flat, deep := kids{1: nil}, kids{}
	for x := 2; x < count; x++ {
		flat[1] = append(flat[1], x)
		deep[x-1] = []int{x}
	}
	for i, k := range []kids{flat, deep} {
		w := planted(count, k)
		if !nest.Right(w) || len(nest.Below(w, 1)) != count-2 || len(nest.Children(w, 1)) != len(k[1]) || nest.Top(w, count-1) != 1 || !nest.Within(w, count-1, 1) {
			t.Error("much is not right:", i)
		}
		v, e := nest.Move(w, count-1, 1)
		if e != api.OK || !nest.Right(v) || nest.Children(v, 1)[0] != count-1 {
			t.Error("much is not moved:", i)
		}
		if v, e := nest.Remove(w, count-1); e != api.OK || !nest.Right(v) || nest.Top(v, count-1) != count-1 || len(nest.Below(v, 1)) != count-3 {
			t.Error("much is not removed:", i)
		}
		w.Next[count-1] = 2
		if nest.Right(w) {
			t.Error("much without an end is right:", i)
		}
	}
	w := planted(count, deep)
	w.Parent[1], w.Child[count-1] = count-1, 1
	if nest.Right(w) {
		t.Error("a large circle is right")
	}
}

// TestRightOfWorld is that the worlds of layer 19 are right, and that Right answers what that layer does where all else is valid.
func TestRightOfWorld(t *testing.T) {
	tables := api.Tables{Texts: []string{""}, Flags: 4, Things: []api.Thing{{Text: -1}, {Text: -1, Parent: 2}, {Text: -1, Room: true}, {Text: -1, Parent: 2}}}
	if w := world.New(tables); !world.Fits(tables) || !nest.Right(w) || !slices.Equal(nest.Children(w, 2), []int{1, 3}) {
		t.Errorf("%+v is not right", w)
	}
	tried(4, 0, 3, false, func(w api.World) {
		inRoom := w.Parent[2] == 0 && (w.Parent[1] == 2 || w.Parent[1] == 3 && w.Parent[3] == 2)
		w.Flags = make([]int, 4)
		if inRoom && nest.Right(w) != world.Right(tables, w) {
			t.Fatalf("%+v: %v", w, nest.Right(w))
		}
	})
}

// TestCallsRememberNothing is that calls at the same time, or in another order, answer the same.
func TestCallsRememberNothing(t *testing.T) {
	w := grove()
	var all sync.WaitGroup
	for i := range 8 {
		all.Go(func() {
			for j := range 200 {
				if to := 1 + (i+j)%10; to != 10 {
					v, e := nest.Move(w, 10, to)
					if e != api.OK || !nest.Right(v) || !nest.Within(v, 10, to) || nest.Children(v, to)[0] != 10 || len(nest.Children(v, to)) != len(nest.Children(w, to))+1 {
						t.Error("calls at the same time differ")
					}
				}
			}
		})
	}
	all.Wait()
	check(t, "the grove", w, grove())
}
