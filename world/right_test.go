package world_test

import (
	"math"
	"slices"
	"testing"

	"clew/api"
	"clew/world"
)

// turn makes another world of one of the manor.
type turn func(w *api.World)

// turned is a copy of w after a turn.
func turned(w api.World, c turn) api.World {
	w = twin(w)
	c(&w)
	return w
}

// set is the turns of a field to each of the values.
func set[T any](field func(w *api.World) *T, values ...T) []turn {
	var l []turn
	for _, v := range values {
		l = append(l, func(w *api.World) { *field(w) = v })
	}
	return l
}

// right is that the worlds of the manor are valid after each of the turns.
func right(t *testing.T, what string, turns ...turn) {
	t.Helper()
	for _, w := range []api.World{begun(), later()} {
		for i, c := range turns {
			if x := turned(w, c); !world.Right(manor(), x) || len(brokenBy(worldSentences(manor()), x)) > 0 {
				t.Errorf("%s, turn %d: not right; broken: %q", what, i, brokenBy(worldSentences(manor()), x))
			}
		}
	}
}

// wrong is that each of the turns breaks that sentence alone, so that w is not valid.
func wrong(t *testing.T, sentence string, w api.World, turns ...turn) {
	t.Helper()
	for i, c := range turns {
		x := turned(w, c)
		if broken := brokenBy(worldSentences(manor()), x); !slices.Equal(broken, []string{sentence}) {
			t.Errorf("%s, turn %d: the sentences broken are %q", sentence, i, broken)
		}
		if world.Right(manor(), x) {
			t.Errorf("%s, turn %d: right", sentence, i)
		}
	}
}

// never is that w is not valid after any of the turns.
func never(t *testing.T, what string, w api.World, turns ...turn) {
	t.Helper()
	for i, c := range turns {
		if world.Right(manor(), turned(w, c)) {
			t.Errorf("%s, turn %d: right", what, i)
		}
	}
}

// bounds is right for values of a field, and wrong for others.
func bounds(t *testing.T, sentence string, field func(w *api.World) *int, valid, broken []int) {
	t.Helper()
	right(t, sentence, set(field, valid...)...)
	wrong(t, sentence, begun(), set(field, broken...)...)
	wrong(t, sentence, later(), set(field, broken...)...)
}

func TestRight(t *testing.T) {
	right(t, "a world", func(*api.World) {})
	if world.Right(manor(), api.World{}) {
		t.Error("no world is right")
	}
	least := house(".r", 2, 0)
	if !world.Right(least, api.World{Parent: []int{0, 2, 0}, Child: []int{0, 0, 1}, Next: []int{0, 0, 0}, Flags: []int{0, 0, 0}}) {
		t.Error("the least world is not right")
	}
	empty := begun()
	empty.Globals, empty.Timers, empty.Props = []int{}, []int{}, []int{}
	tables := changed(withProps(0))
	tables.Globals, tables.Daemons = nil, nil
	if !world.Right(tables, empty) {
		t.Error("a world with empty lists is not right")
	}
	empty.Globals, empty.Timers, empty.Props = nil, nil, nil
	if !world.Right(tables, empty) {
		t.Error("a world with nil lists is not right")
	}
}

func TestRightNumbers(t *testing.T) {
	bounds(t, "score", func(w *api.World) *int { return &w.Score }, []int{-32768, -1, 0, 1, 32767}, extremes(32768, 65535))
	bounds(t, "turns", func(w *api.World) *int { return &w.Turns }, []int{0, 1, 32768, 1 << 30, 1<<31 - 2, 1<<31 - 1}, []int{-1, -2, 1 << 31, 1<<31 + 1, 1 << 32, math.MinInt32, math.MinInt, math.MaxInt})
	bounds(t, "over", func(w *api.World) *int { return &w.Over }, []int{0, 1, 2, 3}, extremes(-1, 4, 5, 1<<8))
	bounds(t, "it", func(w *api.World) *int { return &w.It }, []int{0, player, hall, coin, rug}, extremes(-1, pastThings, pastThings+1))
	bounds(t, "go", func(w *api.World) *int { return &w.Go }, []int{0, 1, 11, 12}, extremes(-1, 13, 14))
	for _, seed := range []uint64{0, 1, 1 << 63, math.MaxUint64} {
		right(t, "seed", func(w *api.World) { w.Seed = seed })
	}
}

func TestRightElements(t *testing.T) {
	values, others := []int{-32768, -1, 0, 32767}, extremes(32768)
	for i := range 3 {
		bounds(t, "globals are values", func(w *api.World) *int { return &w.Globals[i] }, values, others)
	}
	for i := range 2 * pastThings {
		bounds(t, "props are values", func(w *api.World) *int { return &w.Props[i] }, values, others)
	}
	for x := range pastThings {
		bounds(t, "flags", func(w *api.World) *int { return &w.Flags[x] }, []int{0, 1, 32, 62, 63}, extremes(-1, 64, 65, 128))
	}
	for i := range 2 {
		bounds(t, "timers", func(w *api.World) *int { return &w.Timers[i] }, []int{0, 1, 32766, 32767}, extremes(-1, 32768))
	}
	for flags := 4; flags <= 16; flags++ {
		tables := house(".r", 2, 0)
		tables.Flags = flags
		w := world.New(tables)
		for _, row := range []struct {
			n     int
			valid bool
		}{{0, true}, {1<<flags - 1, true}, {1 << (flags - 1), true}, {1 << flags, false}, {1<<flags + 1, false}, {-1, false}} {
			w.Flags[2] = row.n
			if world.Right(tables, w) != row.valid {
				t.Errorf("%d as one of %d flags: %v", row.n, flags, !row.valid)
			}
		}
	}
}

func TestRightLengths(t *testing.T) {
	lists := []func(w *api.World) *[]int{
		func(w *api.World) *[]int { return &w.Globals }, func(w *api.World) *[]int { return &w.Flags }, func(w *api.World) *[]int { return &w.Props }, func(w *api.World) *[]int { return &w.Timers },
		func(w *api.World) *[]int { return &w.Parent }, func(w *api.World) *[]int { return &w.Child }, func(w *api.World) *[]int { return &w.Next },
	}
	for i, list := range lists {
		cut := []turn{
			func(w *api.World) { *list(w) = nil }, func(w *api.World) { *list(w) = []int{} }, func(w *api.World) { *list(w) = (*list(w))[:1] },
			func(w *api.World) { l := list(w); *l = (*l)[:len(*l)-1] }, func(w *api.World) { l := list(w); *l = append(*l, 0) },
			func(w *api.World) { l := list(w); *l = append(*l, make([]int, 200)...) }, func(w *api.World) { l := list(w); *l = append(*l, *l...) },
		}
		never(t, "a length", begun(), cut...)
		never(t, "a length", later(), cut...)
		if i < 4 {
			wrong(t, "lengths", begun(), cut...)
			wrong(t, "lengths", later(), cut...)
		}
	}
	long := func(n int) turn {
		return func(w *api.World) {
			w.Parent, w.Child, w.Next = append(w.Parent, make([]int, n)...), append(w.Child, make([]int, n)...), append(w.Next, make([]int, n)...)
		}
	}
	wrong(t, "lengths", begun(), long(1), long(2), long(119), long(1000))
	shorter := turned(begun(), func(w *api.World) { w.Parent[rug], w.Next[chair] = 0, 0 })
	wrong(t, "lengths", shorter, func(w *api.World) { w.Parent, w.Child, w.Next = w.Parent[:rug], w.Child[:rug], w.Next[:rug] })
	never(t, "no things", begun(), func(w *api.World) { w.Parent, w.Child, w.Next = nil, nil, nil }, func(w *api.World) { w.Parent, w.Child, w.Next, w.Flags, w.Props = nil, nil, nil, nil, nil },
		func(w *api.World) { w.Parent, w.Child, w.Next = w.Parent[:1], w.Child[:1], w.Next[:1] })
	swapped := func(a, b func(w *api.World) *[]int) turn {
		return func(w *api.World) { *a(w), *b(w) = *b(w), *a(w) }
	}
	never(t, "lists that are one another", begun(), swapped(lists[0], lists[3]), swapped(lists[1], lists[2]), swapped(lists[4], lists[5]), swapped(lists[5], lists[6]))
}

func TestRightTree(t *testing.T) {
	for _, n := range extremes(-1, 1, hall, coin, pastThings) {
		wrong(t, "elements 0", begun(), func(w *api.World) { w.Child[0] = n }, func(w *api.World) { w.Next[0] = n })
		wrong(t, "elements 0", later(), func(w *api.World) { w.Child[0] = n }, func(w *api.World) { w.Next[0] = n })
		never(t, "the parent of nothing", begun(), func(w *api.World) { w.Parent[0] = n })
	}
	wrong(t, "elements 0", begun(), func(w *api.World) { w.Parent[0] = hall }, func(w *api.World) { w.Parent[0] = coin }, func(w *api.World) { w.Child[0] = coin })
	wrong(t, "parents", begun(), set(func(w *api.World) *int { return &w.Parent[coin] }, extremes(-1, pastThings, pastThings+1)...)...)
	wrong(t, "listed", begun(), func(w *api.World) { w.Parent[coin] = hall }, func(w *api.World) { w.Parent[coin] = cave }, func(w *api.World) { w.Parent[coin] = wick })
	wrong(t, "nothing behind what has no parent", begun(), set(func(w *api.World) *int { return &w.Next[coin] }, extremes(-1, player, hall, cave, chair, lamp, rug, coin, pastThings)...)...)
	wrong(t, "nothing behind what has no parent", begun(), set(func(w *api.World) *int { return &w.Next[hall] }, extremes(-1, player, hall, cave, rug, pastThings)...)...)

	leftOut := []turn{
		func(w *api.World) { w.Child[hall] = rug }, func(w *api.World) { w.Next[chair] = 0 }, func(w *api.World) { w.Child[hall] = 0 }, func(w *api.World) { w.Child[hall], w.Next[chair] = rug, 0 },
		func(w *api.World) { w.Child[lamp] = 0 }, func(w *api.World) { w.Child[player] = 0 }, func(w *api.World) { w.Child[chair] = 0 },
		func(w *api.World) { w.Child[hall], w.Next[chair], w.Next[rug] = rug, 99, 0 }, func(w *api.World) { w.Child[lamp], w.Next[wick] = 0, wick },
	}
	wrong(t, "listed", begun(), leftOut...)
	wrong(t, "children", begun(),
		func(w *api.World) { w.Next[rug] = chair }, func(w *api.World) { w.Next[rug] = rug }, func(w *api.World) { w.Next[wick] = wick }, func(w *api.World) { w.Next[player] = player },
		func(w *api.World) { w.Child[cave] = rug }, func(w *api.World) { w.Child[coin] = rug }, func(w *api.World) { w.Child[cave] = coin }, func(w *api.World) { w.Child[cave] = hall }, func(w *api.World) { w.Child[coin] = coin },
		func(w *api.World) { w.Next[rug] = coin }, func(w *api.World) { w.Next[rug] = hall }, func(w *api.World) { w.Next[rug] = wick }, func(w *api.World) { w.Next[wick] = rug }, func(w *api.World) { w.Next[lamp] = rug },
		func(w *api.World) { w.Next[chair], w.Next[lamp] = lamp, rug }, func(w *api.World) { w.Child[rug] = lamp }, func(w *api.World) { w.Child[wick] = player })
	for _, n := range extremes(-1, pastThings, pastThings+1, 128) {
		for x := player; x < pastThings; x++ {
			never(t, "an index", begun(), func(w *api.World) { w.Parent[x] = n }, func(w *api.World) { w.Child[x] = n }, func(w *api.World) { w.Next[x] = n })
			never(t, "an index", later(), func(w *api.World) { w.Parent[x] = n }, func(w *api.World) { w.Child[x] = n }, func(w *api.World) { w.Next[x] = n })
		}
		wrong(t, "children", begun(), func(w *api.World) { w.Next[rug] = n }, func(w *api.World) { w.Next[wick] = n }, func(w *api.World) { w.Child[cave] = n }, func(w *api.World) { w.Child[coin] = n })
	}
}

// put is the turn that takes x from where it is and makes it the first thing in to, or leaves it in nothing if to is 0.
func put(x, to int) turn {
	return func(w *api.World) {
		if from := w.Parent[x]; from != 0 {
			at := &w.Child[from]
			for *at != x {
				at = &w.Next[*at]
			}
			*at = w.Next[x]
		}
		w.Parent[x], w.Next[x] = to, 0
		if to != 0 {
			w.Next[x], w.Child[to] = w.Child[to], x
		}
	}
}

// inOrder is the turns one after another.
func inOrder(turns ...turn) turn {
	return func(w *api.World) {
		for _, c := range turns {
			c(w)
		}
	}
}

func TestRightPlaces(t *testing.T) {
	for _, to := range []int{0, player, hall, cave, chair, lamp, wick, rug} {
		right(t, "the coin", put(coin, to), inOrder(put(coin, to), put(coin, rug), put(wick, coin)))
	}
	for _, to := range []int{hall, cave} {
		right(t, "the player", put(player, to), inOrder(put(player, rug), put(rug, to)), inOrder(put(coin, rug), put(lamp, coin), put(player, lamp), put(rug, to)))
	}
	wrong(t, "not inside itself", begun(), put(coin, coin), put(rug, rug), put(wick, wick), put(lamp, lamp), put(lamp, wick),
		inOrder(put(coin, rug), put(rug, coin)), inOrder(put(lamp, coin), put(coin, wick)), inOrder(put(rug, lamp), put(coin, rug), put(lamp, coin)))
	wrong(t, "not inside itself", later(), put(coin, coin), put(wick, wick), put(chair, chair), inOrder(put(wick, chair), put(chair, wick)), inOrder(put(lamp, rug), put(rug, wick), put(wick, lamp)))
	never(t, "the player inside itself", begun(), put(player, player), put(player, lamp), put(player, wick), inOrder(put(player, coin), put(coin, wick)))
	never(t, "the player inside itself", later(), put(player, player), inOrder(put(player, lamp), put(lamp, player)), inOrder(put(rug, rug), put(player, rug)))
	wrong(t, "the player is in a room", begun(), put(player, 0), put(player, coin), put(chair, 0), put(chair, coin), inOrder(put(player, rug), put(rug, coin)))
	wrong(t, "the player is in a room", later(), put(player, 0), put(player, chair), put(player, wick), inOrder(put(player, coin), put(coin, 0)))
	for _, w := range []api.World{begun(), later()} {
		wrong(t, "a room has no parent", w, put(cave, player), put(cave, rug), put(cave, wick), put(cave, hall), put(hall, cave))
	}
}

// TestRightSmall is Right for all worlds of few things whose numbers are among few.
func TestRightSmall(t *testing.T) {
	for _, row := range []struct {
		rooms         string
		least, most   int
		valid, parent int
	}{{".r", -1, 3, 1, 2}, {".r.", 0, 3, 5, 2}, {".rr", 0, 3, 2, 2}} {
		parents := make([]int, len(row.rooms))
		parents[0] = row.parent
		tables := house(row.rooms, parents...)
		sentences := worldSentences(tables)
		w := world.New(tables)
		valid := 0
		var try func(i int)
		fields := slices.Concat(elements(w.Parent), elements(w.Child), elements(w.Next))
		try = func(i int) {
			if i < len(fields) {
				for n := row.least; n <= row.most; n++ {
					*fields[i] = n
					try(i + 1)
				}
				return
			}
			is := world.Right(tables, w)
			if is {
				valid++
			}
			if is != (len(brokenBy(sentences, w)) == 0) {
				t.Fatalf("%+v: %v, but broken: %q", w, is, brokenBy(sentences, w))
			}
		}
		try(0)
		if valid != row.valid {
			t.Errorf("%q has %d valid worlds, not %d", row.rooms, valid, row.valid)
		}
	}
}

// elements are the elements of l but for the first one.
func elements(l []int) []*int {
	var p []*int
	for i := 1; i < len(l); i++ {
		p = append(p, &l[i])
	}
	return p
}

// TestRightAtRandom compares Right with the reading for valid worlds at random in which some things are changed.
func TestRightAtRandom(t *testing.T) {
	d := &dice{state: 1}
	valid := 0
	for range 1500 {
		tables := d.tables()
		sentences := worldSentences(tables)
		w := d.world(tables)
		if broken := brokenBy(sentences, w); len(broken) > 0 || !world.Right(tables, w) {
			t.Fatalf("%+v\nand\n%+v\nare not right: %q", tables, w, broken)
		}
		for range 10 {
			x := twin(w)
			for range 1 + d.below(3) {
				places := placesOf(&x)
				d.other(places[d.below(len(places)-1)].value)
			}
			broken := brokenBy(sentences, x)
			if world.Right(tables, x) != (len(broken) == 0) {
				t.Fatalf("%+v\nand\n%+v\nare not as the reading has it: %q", tables, x, broken)
			}
			if len(broken) == 0 {
				valid++
			}
		}
	}
	if valid < 1000 {
		t.Error("few valid worlds:", valid)
	}
}

func TestRightOfAny(t *testing.T) {
	d := &dice{state: 2}
	for range 3000 {
		tables := d.tables()
		world.Right(tables, d.anyWorld())
		world.Right(d.anything(), d.anyWorld())
		world.Right(d.anything(), world.New(tables))
	}
	world.Right(api.Tables{}, api.World{})
	for _, flags := range []int{-1, math.MinInt, 63, 64, 100, math.MaxInt} {
		world.Right(api.Tables{Flags: flags, Things: make([]api.Thing, 1)}, api.World{Parent: []int{0}, Child: []int{0}, Next: []int{0}, Flags: []int{0}})
	}
	unchanged(t, later(), func(w api.World) { world.Right(manor(), w) })
	unchanged(t, manor(), func(x api.Tables) { world.Right(x, later()) })
}
