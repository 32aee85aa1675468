package world_test

import (
	"math"
	"reflect"
	"testing"

	"clew/api"
	"clew/world"
)

// same is that a and b are the same, or are not.
func same(t *testing.T, what string, a, b api.World, is bool) {
	t.Helper()
	if world.Same(a, b) != is || world.Same(b, a) != is {
		t.Errorf("%s: same is not %v for\n%+v and\n%+v", what, is, a, b)
	}
}

func TestSame(t *testing.T) {
	for _, w := range []api.World{{}, begun(), later(), {Globals: []int{1}}, {Score: -1}, {Parent: []int{-7, 99}, Over: 77}} {
		same(t, "itself", w, w, true)
		same(t, "a twin", w, twin(w), true)
	}
	same(t, "other worlds", begun(), later(), false)
	same(t, "no world", begun(), api.World{}, false)
}

// others are values of v's type that are not equal to it.
func others(v reflect.Value) []reflect.Value {
	var l []reflect.Value
	add := func(other any) {
		if !reflect.DeepEqual(other, v.Interface()) {
			l = append(l, reflect.ValueOf(other))
		}
	}
	switch v.Kind() {
	case reflect.Int:
		n := int(v.Int())
		for _, other := range []int{0, 1, -n, n - 1, n + 1, ^n, n + 1<<8, n + 1<<16, n + 1<<31, n + 1<<32, n ^ math.MinInt} {
			add(other)
		}
	case reflect.Uint64:
		for i := range 64 {
			add(v.Uint() ^ 1<<i)
		}
		add(^v.Uint())
	case reflect.Slice:
		list := v.Interface().([]int)
		for _, other := range [][]int{append(twin(list), 0), append(twin(list), 7), append([]int{0}, list...), append(twin(list), list...)} {
			add(other)
		}
		if n := len(list); n > 0 {
			add([]int(nil))
			add(list[1:])
			add(list[:n-1])
			add(append(append([]int{}, list[1:]...), list[0]))
		}
	}
	return l
}

// TestSameOfEachField is that worlds which differ in one field or element alone are not the same.
func TestSameOfEachField(t *testing.T) {
	for _, w := range []api.World{begun(), later(), {}} {
		changed := twin(w)
		for _, p := range placesOf(&changed) {
			kept := reflect.New(p.value.Type()).Elem()
			kept.Set(p.value)
			for _, other := range others(kept) {
				p.value.Set(other)
				same(t, p.path, w, changed, false)
				p.value.Set(kept)
				same(t, p.path, w, changed, true)
			}
		}
	}
	fields := reflect.TypeFor[api.World]()
	for i := range fields.NumField() {
		for j := range i {
			a, b := api.World{}, api.World{}
			nonzero(reflect.ValueOf(&a).Elem().Field(i))
			nonzero(reflect.ValueOf(&b).Elem().Field(j))
			same(t, fields.Field(i).Name+" and "+fields.Field(j).Name, a, b, false)
		}
	}
}

// nonzero puts the number 1, or a list of it, into v.
func nonzero(v reflect.Value) {
	switch v.Kind() {
	case reflect.Slice:
		v.Set(reflect.ValueOf([]int{1}))
	case reflect.Uint64:
		v.SetUint(1)
	default:
		v.SetInt(1)
	}
}

func TestSameOfEmptyLists(t *testing.T) {
	empty := api.World{Globals: []int{}, Parent: []int{}, Child: []int{}, Next: []int{}, Flags: []int{}, Props: []int{}, Timers: []int{}}
	same(t, "empty lists", empty, api.World{}, true)
	some := begun()
	some.Globals, some.Timers = nil, []int{}
	other := begun()
	other.Globals, other.Timers = []int{}, nil
	same(t, "empty lists", some, other, true)
}

// apart is that call returns a world that shares no memory with what it is given, and in which no two lists share any.
func apart(t *testing.T, call func(w api.World) api.World) {
	t.Helper()
	for _, w := range []api.World{begun(), later(), {}, {Globals: []int{}, Props: []int{1}}} {
		unchanged(t, w, func(w api.World) { call(w) })
		given, kept := twin(w), call(w)
		got := call(given)
		spoil(reflect.ValueOf(&got).Elem())
		if !reflect.DeepEqual(given, w) {
			t.Errorf("the world changes with what is made of it: %+v", given)
		}
		got = call(given)
		spoil(reflect.ValueOf(&given).Elem())
		check(t, "what is made of a world that changes", got, kept)
	}
	full := twin(later())
	full.Child, full.Next = full.Parent, full.Parent
	listsApart(t, func() api.World { return call(full) })
}

func TestCopy(t *testing.T) {
	for _, w := range []api.World{begun(), later(), {}, {Globals: []int{1}, Parent: []int{-5}, Over: -1, Turns: math.MinInt}} {
		check(t, "a copy", world.Copy(w), w)
		same(t, "a copy", world.Copy(w), w, true)
		check(t, "a copy of a copy", world.Copy(world.Copy(w)), w)
	}
	apart(t, world.Copy)
}

func TestKey(t *testing.T) {
	for _, w := range []api.World{begun(), later(), {}, {Turns: 7}, {It: 3}, {Turns: -1, It: -1, Score: 4, Over: 9, Go: 30, Seed: 5, Timers: []int{-1}}, {Turns: math.MaxInt, It: math.MinInt}} {
		want := w
		want.Turns, want.It = 0, 0
		check(t, "a key", world.Key(w), want)
		check(t, "a key of a key", world.Key(world.Key(w)), want)
	}
	seven := begun()
	seven.Turns = 7
	check(t, "the key of example 1", world.Key(seven), begun())
	for _, turns := range []int{0, 1, 1<<31 - 1} {
		for _, it := range []int{0, player, rug} {
			w := later()
			w.Turns, w.It = turns, it
			if !world.Right(manor(), world.Key(w)) || !world.Same(world.Key(w), world.Key(later())) {
				t.Errorf("the key of %+v", w)
			}
		}
	}
	apart(t, world.Key)
}

func TestSameOfAny(t *testing.T) {
	d := &dice{state: 3}
	for range 3000 {
		a, b := d.anyWorld(), d.anyWorld()
		same(t, "any worlds", a, b, reflect.DeepEqual(plainWorld(twin(a)), plainWorld(twin(b))))
		same(t, "a copy", a, world.Copy(a), true)
		c := twin(a)
		places := placesOf(&c)
		d.other(places[d.below(len(places)-1)].value)
		same(t, "a changed world", a, c, reflect.DeepEqual(plainWorld(twin(a)), plainWorld(twin(c))))
	}
	unchanged(t, later(), func(w api.World) { world.Same(w, begun()) })
	unchanged(t, later(), func(w api.World) { world.Same(begun(), w) })
}
