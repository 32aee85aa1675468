package world_test

import (
	"math"
	"reflect"
	"testing"

	"clew/api"
	"clew/world"
)

// plainWorld is w with nil for empty lists.
func plainWorld(w api.World) api.World {
	for _, p := range placesOf(&w) {
		if p.value.CanSet() && p.path != "" && p.value.Type() == reflect.TypeFor[[]int]() && p.value.Len() == 0 {
			p.value.SetZero()
		}
	}
	return w
}

// check is that w is want.
func check(t *testing.T, what string, w, want api.World) {
	t.Helper()
	if !reflect.DeepEqual(plainWorld(w), plainWorld(want)) {
		t.Errorf("%s is\n%+v, not\n%+v", what, w, want)
	}
}

// house is tables of the null thing, of the player and of further things with these parents; things without one are rooms where rooms says so.
func house(rooms string, parents ...int) api.Tables {
	t := api.Tables{Texts: []string{""}, Flags: 4, Things: []api.Thing{{Text: -1}}}
	for i, parent := range parents {
		t.Things = append(t.Things, api.Thing{Text: -1, Parent: parent, Room: rooms[i] == 'r'})
	}
	return t
}

func TestNew(t *testing.T) {
	check(t, "the world of the manor", world.New(manor()), begun())
	first := api.Tables{Texts: []string{""}, Flags: 4, Things: []api.Thing{{Text: -1}, {Text: -1, Parent: 2}, {Text: -1, Room: true}, {Text: -1, Parent: 2}}}
	check(t, "the world of example 1", world.New(first), api.World{Parent: []int{0, 2, 0, 2}, Child: []int{0, 0, 1, 0}, Next: []int{0, 3, 0, 0}, Flags: make([]int, 4), Seed: 1})
}

func TestNewTree(t *testing.T) {
	for _, row := range []struct {
		rooms               string
		parent, child, next []int // from the player on
	}{
		{".r", []int{2, 0}, []int{0, 1}, []int{0, 0}},
		{".r.", []int{2, 0, 0}, []int{0, 1, 0}, []int{0, 0, 0}},
		{".rr", []int{3, 0, 0}, []int{0, 0, 1}, []int{0, 0, 0}},
		{".r.", []int{3, 0, 2}, []int{0, 3, 1}, []int{0, 0, 0}},
		{".r.", []int{2, 0, 1}, []int{3, 1, 0}, []int{0, 0, 0}},
		{".r....", []int{2, 0, 2, 2, 2, 2}, []int{0, 1, 0, 0, 0, 0}, []int{3, 0, 4, 5, 6, 0}},
		{".r....", []int{6, 0, 2, 1, 3, 2}, []int{4, 3, 5, 0, 0, 1}, []int{0, 0, 6, 0, 0, 0}},
		{".rr....", []int{7, 0, 0, 2, 3, 2, 3}, []int{0, 4, 5, 0, 0, 0, 1}, []int{0, 0, 0, 6, 7, 0, 0}},
		{".r.....", []int{2, 0, 7, 3, 7, 0, 6}, []int{0, 1, 4, 0, 0, 7, 3}, []int{0, 0, 5, 0, 0, 0, 0}},
		{".......r", []int{2, 8, 2, 2, 1, 1, 0, 0}, []int{5, 1, 0, 0, 0, 0, 0, 2}, []int{3, 0, 4, 0, 6, 0, 0, 0}},
	} {
		tables := house(row.rooms, row.parent...)
		if broken := brokenBy(tableSentences(), tables); len(broken) > 0 {
			t.Fatal(row, broken)
		}
		ahead := func(l []int) []int { return append([]int{0}, l...) }
		check(t, row.rooms, world.New(tables), api.World{Parent: ahead(row.parent), Child: ahead(row.child), Next: ahead(row.next), Flags: make([]int, len(tables.Things)), Seed: 1})
	}
}

func TestNewFields(t *testing.T) {
	for _, row := range []struct {
		release int
		seed    uint64
	}{{0, 1}, {1, 2654435770}, {2, 5308871539}, {3, 7963307308}, {1000, 2654435769001}, {32766, 86975242407055}, {32767, 86977896842824}} {
		want := begun()
		want.Seed = row.seed
		check(t, "the world of a release", world.New(changed(func(t *api.Tables) { t.Release = row.release })), want)
	}
	for n := range 17 {
		want := begun()
		want.Timers = make([]int, n)
		check(t, "the world with daemons", world.New(changed(func(t *api.Tables) { t.Daemons = make([]int, n) })), want)
	}
	for n := range 17 {
		want := begun()
		want.Props = make([]int, pastThings*n)
		tables := changed(withProps(n))
		for x := range pastThings {
			for p := range n {
				tables.Things[x].Props[p], want.Props[x*n+p] = x*p, x*p
			}
		}
		check(t, "the world with props", world.New(tables), want)
	}
	for _, l := range [][]int{nil, {}, {0}, {-32768, 32767}, many(64, -1)} {
		want := begun()
		want.Globals = l
		check(t, "the world with globals", world.New(changed(func(t *api.Tables) { t.Globals = l })), want)
	}
	for x := player; x < pastThings; x++ {
		for _, flags := range []int{0, 1, 32, 63} {
			want := begun()
			want.Flags[x] = flags
			check(t, "the world with flags", world.New(changed(func(t *api.Tables) { t.Things[x].Flags = flags })), want)
		}
	}
	want := begun()
	check(t, "what does not matter", world.New(changed(func(t *api.Tables) {
		t.Title, t.By, t.Max, t.Texts[0], t.Acts, t.Deeds, t.Funcs = 0, 0, 0, "x", nil, nil, nil
		t.Things[hall].Ways, t.Things[lamp].Words, t.Things[lamp].Adjs, t.Things[lamp].Text, t.Things[lamp].Title = nil, nil, nil, -1, 0
	})), want)
}

func TestNewLimit(t *testing.T) {
	tables := changed(withThings(128))
	w := world.New(tables)
	want := begun()
	want.Parent, want.Child, want.Next, want.Flags = append(want.Parent, many(119, hall)...), append(want.Child, make([]int, 119)...), append(want.Next, make([]int, 119)...), append(want.Flags, make([]int, 119)...)
	for x := pastThings; x < 128; x++ {
		want.Next[x-1] = x
		want.Props = append(want.Props, 1, 2)
	}
	check(t, "the world with 128 things", w, want)
	if !world.Right(tables, w) {
		t.Error("128 things are not right")
	}
}

// initial is the world that New returns, as the chapter describes it.
func initial(t api.Tables) api.World {
	things := len(t.Things)
	w := api.World{Globals: t.Globals, Child: make([]int, things), Next: make([]int, things), Props: make([]int, things*len(t.Props)), Timers: make([]int, len(t.Daemons))}
	for x, thing := range t.Things {
		w.Parent, w.Flags = append(w.Parent, thing.Parent), append(w.Flags, thing.Flags)
		for p, n := range thing.Props {
			w.Props[x*len(t.Props)+p] = n
		}
		last := 0
		for y, other := range t.Things {
			switch {
			case other.Parent != x || x == 0:
				continue
			case last == 0:
				w.Child[x] = y
			default:
				w.Next[last] = y
			}
			last = y
		}
	}
	w.Seed = uint64(t.Release)*2654435769 + 1
	return w
}

// TestNewIsRight is 19.5, and 19.2 for tables at random.
func TestNewIsRight(t *testing.T) {
	d := &dice{state: 19}
	for range 3000 {
		tables := d.tables()
		w := world.New(tables)
		check(t, "a world at random", w, initial(tables))
		if broken := brokenBy(worldSentences(tables), w); len(broken) > 0 || !world.Right(tables, w) {
			t.Fatalf("%+v\nbegins with\n%+v\nwhich is not right: %q", tables, w, broken)
		}
	}
	for _, c := range []change{func(*api.Tables) {}, withThings(128), withProps(16), withProps(0), withRoutines(2048, 2048), func(t *api.Tables) { t.Release = 32767 }} {
		if tables := changed(c); !world.Right(tables, world.New(tables)) {
			t.Errorf("the world of %+v is not right", tables)
		}
	}
}

func TestNewSharesNothing(t *testing.T) {
	unchanged(t, manor(), func(x api.Tables) { world.New(x) })
	tables := manor()
	w := world.New(tables)
	spoil(reflect.ValueOf(&w).Elem())
	if !reflect.DeepEqual(tables, manor()) {
		t.Error("a world shares memory with its tables")
	}
	check(t, "the world, once more", world.New(tables), begun())
	listsApart(t, func() api.World { return world.New(manor()) })
}

// listsApart is that the lists of what make returns share no memory.
func listsApart(t *testing.T, make func() api.World) {
	t.Helper()
	lists := reflect.TypeFor[api.World]()
	for i := range lists.NumField() {
		w := make()
		spoil(reflect.ValueOf(&w).Elem().Field(i))
		for j := range lists.NumField() {
			if i != j && !reflect.DeepEqual(reflect.ValueOf(w).Field(j).Interface(), reflect.ValueOf(make()).Field(j).Interface()) {
				t.Errorf("%s changes with %s", lists.Field(j).Name, lists.Field(i).Name)
			}
		}
	}
}

// TestNewOfAny is that New ends for tables that are not valid, too.
func TestNewOfAny(t *testing.T) {
	for _, tables := range []api.Tables{{}, {Release: -1, Daemons: []int{7}}, {Things: []api.Thing{{Parent: 5, Props: []int{1}}, {Parent: -1}, {Parent: math.MinInt}, {Parent: 3}, {Parent: math.MaxInt}}}} {
		world.New(tables)
	}
	d := &dice{state: 5}
	for range 2000 {
		world.New(d.anything())
	}
}
