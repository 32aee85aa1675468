package world_test

import (
	"math"
	"reflect"
	"slices"
	"sync"
	"testing"

	"clew/api"
	"clew/world"
)

// value is any value of that type.
func (d *dice) value(of reflect.Type, depth int) reflect.Value {
	v := reflect.New(of).Elem()
	switch of.Kind() {
	case reflect.Struct:
		for i := range v.NumField() {
			v.Field(i).Set(d.value(of.Field(i).Type, depth))
		}
	case reflect.Slice:
		for n := d.below(6); n > 0 && depth > 0; n-- {
			v = reflect.Append(v, d.value(of.Elem(), depth-1))
		}
	case reflect.Int:
		v.SetInt(int64(one(d, 0, 0, 1, 1, 2, 2, 3, 4, 5, d.below(20)-1, -1, 256, 40000, math.MinInt, math.MaxInt)))
	case reflect.Uint64:
		v.SetUint(uint64(d.below(3)))
	case reflect.String:
		v.SetString(one(d, "", "a", "lamp", "\xff\x00"))
	case reflect.Bool:
		v.SetBool(d.below(2) == 0)
	}
	return v
}

// anything is any tables.
func (d *dice) anything() api.Tables {
	return d.value(reflect.TypeFor[api.Tables](), 5).Interface().(api.Tables)
}

// anyWorld is any world.
func (d *dice) anyWorld() api.World {
	return d.value(reflect.TypeFor[api.World](), 5).Interface().(api.World)
}

// upTo is a number in [least, most], often one of these two.
func (d *dice) upTo(least, most int) int {
	return one(d, least, most, least+d.below(most-least+1), least+d.below(most-least+1))
}

// values are that many values.
func (d *dice) values(n int) []int {
	return few(d, n, n, func() int { return d.upTo(-32768, 32767) })
}

// dictionary is some words.
func (d *dice) dictionary(least, most int) []string {
	return few(d, least, most, func() string { return one(d, "a", "lamp", "it's", "7", "ninechars", "0-'") })
}

// places are the parents of things in a world with these rooms, where the player is in a room and none is inside itself.
func (d *dice) places(rooms []bool) []int {
	parents := make([]int, len(rooms))
	var found, grounded []int // things that may contain others; those that are in a room
	for x, room := range rooms {
		if room {
			found, grounded = append(found, x), append(grounded, x)
		}
	}
	var others []int
	for x := 1; x < len(rooms); x++ {
		if !rooms[x] {
			others = append(others, x)
		}
	}
	for _, x := range shuffle(d, others) {
		switch {
		case x == 1:
			parents[x] = one(d, grounded...)
		case d.below(4) > 0:
			parents[x] = one(d, found...)
		}
		if slices.Contains(grounded, parents[x]) {
			grounded = append(grounded, x)
		}
		found = append(found, x)
	}
	return parents
}

// tables are valid tables.
func (d *dice) tables() api.Tables {
	t := api.Tables{Release: d.upTo(0, 32767), Max: d.upTo(0, 32767), Flags: d.upTo(4, 16), Texts: few(d, 1, 5, func() string { return one(d, "", "A hall.", "\n", "~") })}
	t.Title, t.By = d.below(len(t.Texts)), d.below(len(t.Texts))
	t.Props, t.Globals = d.values(one(d, 0, 1, 2, 16)), d.values(one(d, 0, 1, 3, 64))
	for range 1 + d.below(6) {
		params := one(d, 0, 0, d.upTo(0, 8))
		t.Params, t.Locals = append(t.Params, params), append(t.Locals, d.upTo(params, 24))
	}
	t.Params[0] = 0
	t.Funcs = few(d, 0, 3, func() int { return d.below(len(t.Params)) })
	t.Daemons = few(d, 0, 3, func() int { return d.plain(t) })
	d.furnish(&t)
	t.Acts = few(d, 1, 3, func() api.Act {
		return api.Act{Meta: d.below(2) == 0, Lines: few(d, 1, 3, d.line)}
	})
	t.Deeds = few(d, 0, 3, func() api.Deed {
		thing := func() int { return one(d, -1, 1+d.below(len(t.Things)-1)) }
		return api.Deed{Verb: d.below(len(t.Acts)), Phase: d.upTo(1, 3), Noun: thing(), Second: thing(), When: one(d, -1, d.plain(t)), Body: d.plain(t)}
	})
	return t
}

// plain is a routine without params.
func (d *dice) plain(t api.Tables) int {
	for {
		if n := d.below(len(t.Params)); t.Params[n] == 0 {
			return n
		}
	}
}

// furnish gives things to tables.
func (d *dice) furnish(t *api.Tables) {
	rooms := make([]bool, d.upTo(3, one(d, 4, 6, 12)))
	for x := 2; x < len(rooms); x++ {
		rooms[x] = d.below(3) == 0
	}
	rooms[2+d.below(len(rooms)-2)] = true
	t.Things = []api.Thing{{Text: -1, Props: make([]int, len(t.Props))}}
	parents := d.places(rooms)
	for x := 1; x < len(rooms); x++ {
		thing := api.Thing{Title: d.below(len(t.Texts)), Text: d.upTo(-1, len(t.Texts)-1), Parent: parents[x], Flags: d.upTo(0, 1<<t.Flags-1), Room: rooms[x], Props: d.values(len(t.Props)), Words: d.dictionary(0, 8), Adjs: d.dictionary(0, 8)}
		for dir := 1; dir <= 12 && rooms[x]; dir++ {
			if to := d.below(len(rooms)); d.below(3) == 0 && rooms[to] {
				thing.Ways = append(thing.Ways, api.Way{Dir: dir, To: to, When: one(d, -1, d.plain(*t)), Else: d.upTo(-1, len(t.Texts)-1)})
			}
		}
		t.Things = append(t.Things, thing)
	}
}

// line is a line of a verb.
func (d *dice) line() []api.Slot {
	l := []api.Slot{{Kind: wordSlot, Words: d.dictionary(1, 4)}}
	rest := shuffle(d, []int{nounSlot, manySlot, numberSlot, dirSlot, wordSlot})
	for _, kind := range rest[:d.below(6)] {
		s := api.Slot{Kind: kind}
		if kind == wordSlot {
			s.Words = d.dictionary(1, 4)
		}
		l = append(l, s)
	}
	return l
}

// world is a valid world of the tables t.
func (d *dice) world(t api.Tables) api.World {
	things := len(t.Things)
	var rooms []bool
	for _, thing := range t.Things {
		rooms = append(rooms, thing.Room)
	}
	parents := d.places(rooms)
	w := api.World{Globals: d.values(len(t.Globals)), Parent: parents, Child: make([]int, things), Next: make([]int, things), Props: d.values(things * len(t.Props)), Timers: few(d, len(t.Daemons), len(t.Daemons), func() int { return d.upTo(0, 32767) })}
	for _, x := range shuffle(d, thingsOf(w)) {
		if parent := parents[x]; parent != 0 {
			w.Next[x], w.Child[parent] = w.Child[parent], x
		}
	}
	w.Flags = few(d, things, things, func() int { return d.upTo(0, 1<<t.Flags-1) })
	w.Seed, w.Score, w.Turns, w.Over, w.It, w.Go = uint64(d.below(1<<30)), d.upTo(-32768, 32767), d.upTo(0, 1<<31-1), d.upTo(0, 3), d.upTo(0, things-1), d.upTo(0, 12)
	return w
}

// TestFitsAtRandom compares Fits with the reading for valid tables at random in which some things are changed.
func TestFitsAtRandom(t *testing.T) {
	d := &dice{state: 6}
	sentences := tableSentences()
	valid, alone := 0, map[string]bool{}
	for range 1500 {
		tables := d.tables()
		if broken := brokenBy(sentences, tables); len(broken) > 0 || !world.Fits(tables) {
			t.Fatalf("%+v\ndo not fit: %q", tables, broken)
		}
		for range 20 {
			x := twin(tables)
			for range one(d, 1, 1, 1, 2, 3) {
				places := placesOf(&x)
				d.other(places[d.below(len(places)-1)].value)
			}
			broken := brokenBy(sentences, x)
			if world.Fits(x) != (len(broken) == 0) {
				t.Fatalf("%+v\nare not as the reading has it: %q", x, broken)
			}
			switch len(broken) {
			case 0:
				valid++
			case 1:
				alone[broken[0]] = true
			}
		}
	}
	if valid < 1000 || len(alone) < 40 {
		t.Error("few valid tables, or few sentences broken alone:", valid, len(alone))
	}
}

func TestFitsOfAny(t *testing.T) {
	d := &dice{state: 7}
	sentences := tableSentences()
	for range 10000 {
		x := d.anything()
		if broken := brokenBy(sentences, x); world.Fits(x) != (len(broken) == 0) {
			t.Fatalf("%+v\nare not as the reading has it: %q", x, broken)
		}
	}
	// Each field at a time is any one, so that little else is wrong.
	fields := reflect.TypeFor[api.Tables]()
	for range 2000 {
		x := manor()
		i := d.below(fields.NumField())
		reflect.ValueOf(&x).Elem().Field(i).Set(d.value(fields.Field(i).Type, 5))
		if broken := brokenBy(sentences, x); world.Fits(x) != (len(broken) == 0) {
			t.Fatalf("%+v\nare not as the reading has it: %q", x, broken)
		}
	}
}

// TestFitsOfMuch is that Fits ends soon for tables that are far too large.
func TestFitsOfMuch(t *testing.T) {
	failing(t, "much", func(t *api.Tables) { withThings(200000)(t) }, func(t *api.Tables) {
		withThings(200000)(t)
		for x := pastThings; x < 200000; x++ {
			t.Things[x].Parent = x - 1
		}
	}, func(t *api.Tables) { t.Things[hall].Ways = many(200000, api.Way{Dir: 1, To: hall, When: -1, Else: -1}) })
}

func TestCallsChangeNothing(t *testing.T) {
	for _, tables := range []api.Tables{{}, manor(), changed(inTurn(coin, rug)), changed(withWays(12, 1)), changed(withThings(129))} {
		unchanged(t, tables, func(x api.Tables) { world.Fits(x) })
	}
	d := &dice{state: 8}
	for range 100 {
		tables := d.tables()
		unchanged(t, tables, func(x api.Tables) { world.Fits(x) })
		unchanged(t, tables, func(x api.Tables) { world.New(x) })
		unchanged(t, d.world(tables), func(w api.World) { world.Right(tables, w) })
	}
}

// TestCallsRememberNothing is that calls at the same time, or in another order, return the same.
func TestCallsRememberNothing(t *testing.T) {
	var all sync.WaitGroup
	for i := range 8 {
		all.Go(func() {
			for j := range 50 {
				tables := changed(withThings(pastThings + (i+j)%5))
				tables.Release = i
				w := world.New(tables)
				if !world.Fits(tables) || !world.Right(tables, w) || world.Fits(changed(inTurn(coin))) || !reflect.DeepEqual(plainWorld(w), plainWorld(initial(tables))) {
					t.Error("calls at the same time differ")
				}
			}
		})
	}
	all.Wait()
}
