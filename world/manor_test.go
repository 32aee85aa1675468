package world_test

import (
	"math"
	"reflect"
	"slices"
	"strconv"
	"testing"

	"clew/api"
)

// The kinds of slots and the phases, by the numbers of the document.
const (
	wordSlot, nounSlot, manySlot, numberSlot, dirSlot = 1, 2, 3, 4, 5
	before, on, after                                 = 1, 2, 3
)

func words(l ...string) api.Slot { return api.Slot{Kind: wordSlot, Words: l} }
func slot(kind int) api.Slot     { return api.Slot{Kind: kind} }

// line is a line of a verb: a word, and slots of these kinds behind it.
func line(kinds ...int) []api.Slot {
	l := []api.Slot{words("take")}
	for _, kind := range kinds {
		s := slot(kind)
		if kind == wordSlot {
			s = words("up")
		}
		l = append(l, s)
	}
	return l
}

// The things of the manor.
const (
	player = 1 + iota
	hall
	cave
	chair
	lamp
	wick
	coin
	rug
	pastThings
)

// The routines of the manor: those of a way, of daemons, funcs and deeds.
const (
	wayWhen = iota
	daemon
	twoParams
	body
	eightParams
	deedWhen
	pastRoutines
)

// manor is valid tables each of whose fields has something: the player sits on a chair in the hall and holds a lamp with a wick, the coin is nowhere, and the rug is in the hall.
func manor() api.Tables {
	return api.Tables{
		Title: 1, By: 2, Release: 7, Max: 20, Texts: []string{"", "Manor", "Ann", "Hall", "A hall.\nIt is dark.", "No."}, Flags: 6, Props: []int{3, -4}, Globals: []int{5, -6, 0},
		Things: []api.Thing{
			{Text: -1, Props: []int{0, 0}},
			{Title: 3, Text: -1, Parent: chair, Flags: 4, Props: []int{10, 11}, Words: []string{"me", "myself"}},
			{Title: 3, Text: 4, Flags: 1, Room: true, Props: []int{20, 21}, Words: []string{"hall"}, Ways: []api.Way{{Dir: 1, To: cave, When: wayWhen, Else: 5}, {Dir: 12, To: hall, When: -1, Else: -1}}},
			{Title: 1, Text: -1, Room: true, Props: []int{30, 31}, Ways: []api.Way{{Dir: 9, To: hall, When: -1, Else: 0}}},
			{Title: 2, Text: 5, Parent: hall, Flags: 7, Props: []int{40, 41}, Words: []string{"chair", "seat"}, Adjs: []string{"old", "7-legged"}},
			{Title: 5, Text: 0, Parent: player, Flags: 2, Props: []int{50, 51}, Words: []string{"lamp"}},
			{Title: 0, Text: 1, Parent: lamp, Props: []int{60, -61}, Words: []string{"wick"}},
			{Title: 4, Text: -1, Props: []int{70, 71}, Words: []string{"coin"}, Adjs: []string{"old"}},
			{Title: 4, Text: 3, Parent: hall, Props: []int{80, 81}},
		},
		Acts: []api.Act{
			{Lines: [][]api.Slot{{words("take", "get"), slot(nounSlot)}, {words("pick"), words("up"), slot(manySlot)}}},
			{Lines: [][]api.Slot{{words("give"), slot(nounSlot), words("to", "towards"), slot(nounSlot)}}},
			{Lines: [][]api.Slot{{slot(dirSlot)}, {words("go", "walk", "run", "crawl"), slot(dirSlot)}}},
			{Meta: true, Lines: [][]api.Slot{{words("score")}, {words("wait"), slot(numberSlot)}}},
		},
		Deeds: []api.Deed{{Verb: 0, Phase: on, Noun: lamp, Second: -1, When: deedWhen, Body: body}, {Verb: 1, Phase: after, Noun: lamp, Second: player, When: -1, Body: body}, {Verb: 3, Phase: before, Noun: -1, Second: -1, When: -1, Body: daemon}},
		Funcs: []int{twoParams, eightParams}, Daemons: []int{daemon, body}, Params: []int{0, 0, 2, 0, 8, 0}, Locals: []int{0, 24, 2, 3, 8, 1},
	}
}

// begun is how the story of the manor begins.
func begun() api.World {
	return api.World{
		Globals: []int{5, -6, 0}, Parent: []int{0, chair, 0, 0, hall, player, lamp, 0, hall}, Child: []int{0, lamp, chair, 0, player, wick, 0, 0, 0}, Next: []int{0, 0, 0, 0, rug, 0, 0, 0, 0},
		Flags: []int{0, 4, 1, 0, 7, 2, 0, 0, 0}, Props: []int{0, 0, 10, 11, 20, 21, 30, 31, 40, 41, 50, 51, 60, -61, 70, 71, 80, 81}, Timers: []int{0, 0}, Seed: 7*2654435769 + 1,
	}
}

// later is a world of the manor each of whose fields has something.
func later() api.World {
	w := begun()
	w.Globals, w.Timers = []int{-32768, 0, 32767}, []int{0, 32767}
	w.Parent, w.Child, w.Next = []int{0, hall, 0, 0, 0, hall, 0, cave, hall}, []int{0, 0, rug, coin, 0, 0, 0, 0, 0}, []int{0, 0, 0, 0, 0, player, 0, 0, lamp}
	w.Flags[coin], w.Props[3], w.Seed = 63, 1000, math.MaxUint64
	w.Score, w.Turns, w.Over, w.It, w.Go = -5, 12, 2, coin, 9
	return w
}

// twin is v in new memory; lists have room behind their end, in which there is junk.
func twin[T any](v T) T {
	return twinOf(reflect.ValueOf(v)).Interface().(T)
}

func twinOf(v reflect.Value) reflect.Value {
	switch v.Kind() {
	case reflect.Struct:
		s := reflect.New(v.Type()).Elem()
		for i := range v.NumField() {
			s.Field(i).Set(twinOf(v.Field(i)))
		}
		return s
	case reflect.Slice:
		if v.IsNil() {
			return v
		}
		l := reflect.MakeSlice(v.Type(), v.Len(), v.Len()+3)
		for i := range v.Len() {
			l.Index(i).Set(twinOf(v.Index(i)))
		}
		for i := v.Len(); i < l.Cap(); i++ {
			spoil(l.Slice(0, l.Cap()).Index(i))
		}
		return l
	}
	return v
}

// spoil changes everything in v, also behind the end of lists.
func spoil(v reflect.Value) {
	switch v.Kind() {
	case reflect.Struct:
		for i := range v.NumField() {
			spoil(v.Field(i))
		}
	case reflect.Slice:
		for i := range v.Cap() {
			spoil(v.Slice(0, v.Cap()).Index(i))
		}
	case reflect.Int:
		v.SetInt(^v.Int() - 1000)
	case reflect.Uint64:
		v.SetUint(^v.Uint())
	case reflect.String:
		v.SetString(v.String() + "\t")
	case reflect.Bool:
		v.SetBool(!v.Bool())
	}
}

// whole is v with its lists up to their capacities.
func whole[T any](v T) T {
	s := reflect.New(reflect.TypeFor[T]()).Elem()
	s.Set(reflect.ValueOf(v))
	stretch(s)
	return s.Interface().(T)
}

func stretch(v reflect.Value) {
	switch v.Kind() {
	case reflect.Struct:
		for i := range v.NumField() {
			stretch(v.Field(i))
		}
	case reflect.Slice:
		l := reflect.MakeSlice(v.Type(), v.Cap(), v.Cap())
		reflect.Copy(l, v.Slice(0, v.Cap()))
		for i := range l.Len() {
			stretch(l.Index(i))
		}
		v.Set(l)
	}
}

// unchanged is that call leaves what it is given as it is, also behind the end of lists.
func unchanged[T any](t *testing.T, v T, call func(v T)) {
	t.Helper()
	given := twin(v)
	kept := whole(given)
	call(given)
	if !reflect.DeepEqual(whole(given), kept) {
		t.Errorf("%+v\nbecame\n%+v", v, given)
	}
}

// place is something in a value, and what leads to it.
type place struct {
	value reflect.Value
	path  string
}

// placesOf is the numbers, texts, truth values and lists in what v points to.
func placesOf[T any](v *T) []place {
	var l []place
	var add func(v reflect.Value, path string)
	add = func(v reflect.Value, path string) {
		switch v.Kind() {
		case reflect.Struct:
			for i := range v.NumField() {
				add(v.Field(i), path+"."+v.Type().Field(i).Name)
			}
			return
		case reflect.Slice:
			for i := range v.Len() {
				add(v.Index(i), path+"["+strconv.Itoa(i)+"]")
			}
		}
		l = append(l, place{v, path})
	}
	add(reflect.ValueOf(v).Elem(), "")
	return l
}

// dice is a source of numbers that are the same in every run.
type dice struct{ state uint64 }

func (d *dice) below(n int) int {
	d.state = d.state*6364136223846793005 + 1442695040888963407
	return int(d.state>>33) % n
}

// one is one of a list.
func one[T any](d *dice, l ...T) T { return l[d.below(len(l))] }

// few is a list of from least to most elements.
func few[T any](d *dice, least, most int, element func() T) []T {
	var l []T
	for range least + d.below(most-least+1) {
		l = append(l, element())
	}
	return l
}

// shuffle is l in another order.
func shuffle[T any](d *dice, l []T) []T {
	shuffled := slices.Clone(l)
	for i := range shuffled {
		j := i + d.below(len(shuffled)-i)
		shuffled[i], shuffled[j] = shuffled[j], shuffled[i]
	}
	return shuffled
}

// other puts something else in the place, of which little is known.
func (d *dice) other(v reflect.Value) {
	switch v.Kind() {
	case reflect.Bool:
		v.SetBool(!v.Bool())
	case reflect.String:
		v.SetString(one(d, "", "a", "a\nb", "lamp", "Lamp", "\t", "0'-", "-0", "ninechars", "tencharsxx", v.String()+"x"))
	case reflect.Uint64:
		v.SetUint(v.Uint() ^ 1<<d.below(64))
	case reflect.Int:
		n := int(v.Int())
		v.SetInt(int64(one(d, n-1, n+1, n-1, n+1, d.below(10), d.below(10), -1, -2, 0, 13, 16, 17, 25, 63, 64, 1<<d.below(17), 32767, 32768, -32768, -32769, math.MaxInt32, math.MaxInt32+1, math.MinInt, math.MaxInt)))
	case reflect.Slice:
		d.otherList(v)
	}
}

// otherList makes the list longer, shorter, or of another order.
func (d *dice) otherList(v reflect.Value) {
	n := v.Len()
	switch way := d.below(4); {
	case n == 0:
		v.Set(reflect.Append(v, reflect.Zero(v.Type().Elem())))
	case way == 0:
		v.Set(v.Slice(0, n-1))
	case way == 1:
		v.Set(reflect.Append(v.Slice3(0, n, n), twinOf(v.Index(d.below(n)))))
	case way == 2:
		v.Set(v.Slice(1, n))
	default:
		i, j := d.below(n), d.below(n)
		a, b := twinOf(v.Index(i)), twinOf(v.Index(j))
		v.Index(i).Set(b)
		v.Index(j).Set(a)
	}
}
