package world_test

import (
	"math"
	"slices"
	"strings"
	"testing"

	"clew/api"
	"clew/world"
)

// change makes other tables of the manor's.
type change func(t *api.Tables)

// changed is the manor's tables after a change.
func changed(c change) api.Tables {
	t := manor()
	c(&t)
	return t
}

// to is the changes of a field to each of the values.
func to[T any](field func(t *api.Tables) *T, values ...T) []change {
	var l []change
	for _, v := range values {
		l = append(l, func(t *api.Tables) { *field(t) = v })
	}
	return l
}

// extremes are numbers that stand nowhere in tables.
func extremes(more ...int) []int {
	return append(more, math.MinInt, math.MinInt32, -65536, -32769, 65536, 1<<32, math.MaxInt)
}

// many is a list of n elements.
func many[T any](n int, element T) []T { return slices.Repeat([]T{element}, n) }

// fitting is that the tables are valid after each of the changes.
func fitting(t *testing.T, what string, changes ...change) {
	t.Helper()
	for i, c := range changes {
		if x := changed(c); !world.Fits(x) || len(brokenBy(tableSentences(), x)) > 0 {
			t.Errorf("%s, change %d: does not fit; broken: %q", what, i, brokenBy(tableSentences(), x))
		}
	}
}

// breaking is that each of the changes breaks that sentence alone, so that the tables are not valid.
func breaking(t *testing.T, sentence string, changes ...change) {
	t.Helper()
	for i, c := range changes {
		x := changed(c)
		if broken := brokenBy(tableSentences(), x); !slices.Equal(broken, []string{sentence}) {
			t.Errorf("%s, change %d: the sentences broken are %q", sentence, i, broken)
		}
		if world.Fits(x) {
			t.Errorf("%s, change %d: fits", sentence, i)
		}
	}
}

// failing is that the tables are not valid after any of the changes.
func failing(t *testing.T, what string, changes ...change) {
	t.Helper()
	for i, c := range changes {
		if x := changed(c); world.Fits(x) {
			t.Errorf("%s, change %d: fits", what, i)
		}
	}
}

// both is fitting for values of a field, and breaking for others.
func both[T any](t *testing.T, sentence string, field func(t *api.Tables) *T, valid, broken []T) {
	t.Helper()
	fitting(t, sentence, to(field, valid...)...)
	breaking(t, sentence, to(field, broken...)...)
}

func TestFits(t *testing.T) {
	fitting(t, "the manor", func(*api.Tables) {})
	if world.Fits(api.Tables{}) {
		t.Error("no tables fit")
	}
	least := api.Tables{Texts: []string{""}, Flags: 4, Things: []api.Thing{{Text: -1}, {Text: -1, Parent: 2}, {Text: -1, Room: true}}}
	if !world.Fits(least) {
		t.Error("the least tables do not fit")
	}
	fitting(t, "empty lists", func(t *api.Tables) { t.Acts, t.Deeds = nil, nil }, func(t *api.Tables) { t.Deeds, t.Funcs, t.Daemons = []api.Deed{}, []int{}, []int{} },
		func(t *api.Tables) { t.Globals = nil }, func(t *api.Tables) {
			t.Props = nil
			for x := range t.Things {
				t.Things[x].Props = nil
			}
		}, func(t *api.Tables) {
			t.Things[0].Words, t.Things[0].Adjs, t.Things[0].Ways, t.Things[lamp].Ways = []string{}, []string{}, []api.Way{}, []api.Way{}
		})
}

func TestFitsTexts(t *testing.T) {
	texts := func(t *api.Tables) *[]string { return &t.Texts }
	both(t, "at most 4096 texts", texts, [][]string{many(6, "a"), many(7, ""), many(4095, "a"), many(4096, "a")}, [][]string{many(4097, "a"), many(5000, ""), many(70000, "")})
	text := func(t *api.Tables) *string { return &t.Texts[4] }
	both(t, "texts", text, []string{"", " ~", "\n", "\n\n", strings.Repeat("a", 1024), "Z\"\\"}, []string{strings.Repeat("a", 1025), "\t", "\x1f", "\x7f", "a\x80", "\r\n", "\x00", "é", strings.Repeat(" ", 5000)})
	for i := range manor().Texts {
		breaking(t, "texts", func(t *api.Tables) { t.Texts[i] = "\t" })
	}
	both(t, "title", func(t *api.Tables) *int { return &t.Title }, []int{0, 1, 5}, extremes(-1, -2, 6, 7))
	both(t, "by", func(t *api.Tables) *int { return &t.By }, []int{0, 2, 5}, extremes(-1, -2, 6, 7))
	failing(t, "no texts", func(t *api.Tables) { t.Texts = nil }, func(t *api.Tables) { t.Texts = []string{} })
}

func TestFitsNumbers(t *testing.T) {
	both(t, "release", func(t *api.Tables) *int { return &t.Release }, []int{0, 1, 32766, 32767}, extremes(-1, 32768))
	both(t, "max", func(t *api.Tables) *int { return &t.Max }, []int{0, 1, 32766, 32767}, extremes(-1, 32768))
	both(t, "flags", func(t *api.Tables) *int { return &t.Flags }, []int{4, 5, 15, 16}, append([]int{3, 17, 18, 31, 32, 60}, 1<<8+4, 63, 64, 100, 1<<40, math.MaxInt))
	failing(t, "flags", to(func(t *api.Tables) *int { return &t.Flags }, -1, 0, 1, 2, math.MinInt)...)
}

// withProps is the change to that many props.
func withProps(n int) change {
	return func(t *api.Tables) {
		t.Props = make([]int, n)
		for x := range t.Things {
			t.Things[x].Props = make([]int, n)
		}
	}
}

func TestFitsPropsAndGlobals(t *testing.T) {
	fitting(t, "at most 16 props", withProps(0), withProps(1), withProps(15), withProps(16))
	breaking(t, "at most 16 props", withProps(17), withProps(18), withProps(100))
	both(t, "at most 64 globals", func(t *api.Tables) *[]int { return &t.Globals }, [][]int{nil, {}, {1}, make([]int, 63), make([]int, 64)}, [][]int{make([]int, 65), make([]int, 66), make([]int, 1000)})
	values, others := []int{-32768, -1, 0, 32767}, []int{math.MinInt, -65536, -32769, 32768, 65535, 65536, 1 << 32, math.MaxInt}
	for i := range 2 {
		both(t, "props are values", func(t *api.Tables) *int { return &t.Props[i] }, values, others)
		both(t, "props of a thing are values", func(t *api.Tables) *int { return &t.Things[player].Props[i] }, values, others)
		both(t, "props of a thing are values", func(t *api.Tables) *int { return &t.Things[hall].Props[i] }, values, others)
		both(t, "props of a thing are values", func(t *api.Tables) *int { return &t.Things[rug].Props[i] }, values, others)
	}
	for i := range 3 {
		both(t, "globals are values", func(t *api.Tables) *int { return &t.Globals[i] }, values, others)
	}
}

// withRoutines is the change to that many params and locals.
func withRoutines(params, locals int) change {
	return func(t *api.Tables) {
		t.Params = append(t.Params, make([]int, max(params-len(t.Params), 0))...)[:params]
		t.Locals = append(t.Locals, make([]int, max(locals-len(t.Locals), 0))...)[:locals]
	}
}

func TestFitsRoutines(t *testing.T) {
	fitting(t, "as many locals as params", withRoutines(6, 6), withRoutines(7, 7), func(t *api.Tables) {
		t.Things[hall].Ways, t.Deeds, t.Funcs, t.Daemons, t.Params, t.Locals = nil, nil, nil, nil, nil, []int{}
	})
	breaking(t, "as many locals as params", withRoutines(6, 5), withRoutines(6, 0), withRoutines(6, 7), withRoutines(7, 6), withRoutines(2048, 2047), withRoutines(2048, 2049))
	fitting(t, "at most 2048 routines", withRoutines(2047, 2047), withRoutines(2048, 2048))
	breaking(t, "at most 2048 routines", withRoutines(2049, 2049), withRoutines(2050, 2050), withRoutines(10000, 10000))
	failing(t, "routines that are not there", withRoutines(5, 5), withRoutines(0, 0))

	both(t, "params", func(t *api.Tables) *int { return &t.Params[eightParams] }, []int{0, 1, 7, 8}, []int{-1, -2, math.MinInt})
	both(t, "params", func(t *api.Tables) *int { return &t.Params[twoParams] }, []int{0, 1, 2}, []int{-1})
	for _, n := range []int{9, 10, 24} {
		breaking(t, "params", func(t *api.Tables) { t.Params[eightParams], t.Locals[eightParams] = n, 24 })
	}
	both(t, "locals", func(t *api.Tables) *int { return &t.Locals[eightParams] }, []int{8, 9, 16, 17, 23, 24}, extremes(-1, 0, 1, 7, 25, 26, 32))
	both(t, "locals", func(t *api.Tables) *int { return &t.Locals[wayWhen] }, []int{0, 1, 24}, extremes(-1, 25))
	both(t, "locals", func(t *api.Tables) *int { return &t.Locals[twoParams] }, []int{2, 3, 24}, extremes(-1, 0, 1, 25))
	both(t, "locals", func(t *api.Tables) *int { return &t.Locals[deedWhen] }, []int{0, 1, 24}, extremes(-1, 25))
}

func TestFitsFuncsAndDaemons(t *testing.T) {
	routines := []int{wayWhen, daemon, twoParams, body, eightParams, deedWhen}
	plain, with := []int{wayWhen, daemon, body, deedWhen}, []int{twoParams, eightParams}
	wrong := extremes(-1, -2, pastRoutines, pastRoutines+1)
	for i := range 2 {
		both(t, "funcs", func(t *api.Tables) *int { return &t.Funcs[i] }, routines, wrong)
		both(t, "daemons", func(t *api.Tables) *int { return &t.Daemons[i] }, plain, append(with, wrong...))
	}
	both(t, "at most 64 funcs", func(t *api.Tables) *[]int { return &t.Funcs }, [][]int{nil, {2}, {2, 2}, many(63, 4), many(64, 4)}, [][]int{many(65, 4), many(66, 0), many(3000, 0)})
	both(t, "at most 16 daemons", func(t *api.Tables) *[]int { return &t.Daemons }, [][]int{nil, {1}, {1, 1}, many(15, 3), many(16, 3)}, [][]int{many(17, 3), many(18, 3), many(3000, 3)})
	failing(t, "no routines", func(t *api.Tables) {
		*t = changed(withRoutines(0, 0))
		t.Deeds, t.Things[hall].Ways, t.Funcs = nil, nil, nil
	},
		func(t *api.Tables) {
			*t = changed(withRoutines(0, 0))
			t.Deeds, t.Things[hall].Ways, t.Daemons = nil, nil, nil
		})
}
