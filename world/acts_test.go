package world_test

import (
	"strings"
	"testing"

	"clew/api"
)

func TestFitsCounts(t *testing.T) {
	act := manor().Acts[0]
	acts := func(n int) []api.Act { return append(manor().Acts, many(n-4, act)...) }
	both(t, "at most 64 acts", func(t *api.Tables) *[]api.Act { return &t.Acts }, [][]api.Act{acts(4), acts(63), acts(64)}, [][]api.Act{acts(65), acts(66), acts(1000)})
	for i := range 4 {
		lines := func(t *api.Tables) *[][]api.Slot { return &t.Acts[i].Lines }
		both(t, "1 to 8 lines", lines, [][][]api.Slot{many(1, line()), many(7, line()), many(8, line())}, [][][]api.Slot{nil, {}, many(9, line()), many(10, line()), many(500, line())})
	}
	for i := range 2 {
		slots := func(t *api.Tables) *[]api.Slot { return &t.Acts[2].Lines[i] }
		both(t, "1 to 8 slots", slots, [][]api.Slot{line(), line(many(6, 1)...), line(many(7, 1)...), {slot(dirSlot)}}, [][]api.Slot{nil, {}, line(many(8, 1)...), line(many(9, 1)...), line(many(500, 1)...)})
	}
	failing(t, "no acts", func(t *api.Tables) { t.Acts = nil })
}

func TestFitsSlots(t *testing.T) {
	for i := range 8 {
		at := func(t *api.Tables) *api.Slot {
			t.Acts[3].Lines[1] = line(many(7, 1)...)
			return &t.Acts[3].Lines[1][i]
		}
		given := func(kind int, l ...string) api.Slot { return api.Slot{Kind: kind, Words: l} }
		both(t, "kind of a slot", at, []api.Slot{given(1, "a"), given(5)}, []api.Slot{given(0), given(6), given(-1), given(7), given(0, "a"), given(6, "a"), given(1<<8+1, "a"), given(6, "-")})
		both(t, "1 to 4 words of a slot", at, []api.Slot{given(1, "a"), given(1, "a", "b", "c"), given(1, "a", "b", "c", "d"), given(1, many(4, "a")...)}, []api.Slot{given(1), {Kind: 1, Words: []string{}}, given(1, many(5, "a")...), given(1, many(6, "a")...), given(1, many(300, "a")...)})
		for _, good := range []string{"a", "7", "0-'", "ninechars", "it's"} {
			fitting(t, "words of a slot", to(at, given(1, good), given(1, "a", good), given(1, good, "a", "b", "c"), given(1, "a", "b", "c", good))...)
		}
		for _, bad := range []string{"", "-a", "'", "A", "tencharsxx", "a b", "a_b", ".", "\xff", strings.Repeat("a", 40)} {
			breaking(t, "words of a slot", to(at, given(1, bad), given(1, "a", bad), given(1, bad, "a", "b", "c"), given(1, "a", "b", "c", bad))...)
		}
		breaking(t, "only word slots have words", to(at, given(5, "a"), given(5, "a", "b", "c", "d"), given(5, ""))...)
		if i > 0 {
			for kind := 2; kind <= 5; kind++ {
				fitting(t, "a slot", to(at, given(kind), api.Slot{Kind: kind, Words: []string{}})...)
				breaking(t, "only word slots have words", to(at, given(kind, "a"), given(kind, "a", "b"), given(kind, ""), given(kind, many(5, "a")...))...)
			}
		}
	}
}

func TestFitsLines(t *testing.T) {
	first := func(kind int) []api.Slot { return append([]api.Slot{slot(kind)}, line()...) }
	for i := range 2 {
		at := func(t *api.Tables) *[]api.Slot { return &t.Acts[0].Lines[i] }
		both(t, "the first slot", at, [][]api.Slot{line(), {slot(dirSlot)}, first(dirSlot)}, [][]api.Slot{{slot(nounSlot)}, {slot(manySlot)}, {slot(numberSlot)}, first(nounSlot), first(manySlot), first(numberSlot)})
		both(t, "at most two nouns", at, [][]api.Slot{line(2), line(3), line(2, 2), line(3, 3), line(2, 3), line(3, 2), line(2, 1, 2), line(2, 1, 3), line(1, 3, 1, 2, 1)},
			[][]api.Slot{line(2, 2, 2), line(3, 3, 3), line(2, 2, 3), line(2, 3, 3), line(3, 2, 2), line(3, 2, 3), line(2, 1, 3, 1, 2), line(2, 2, 2, 2), line(2, 2, 3, 3), line(2, 2, 2, 2, 2, 2, 2)})
		both(t, "at most one number", at, [][]api.Slot{line(4), line(1, 4, 1), line(2, 4, 2)}, [][]api.Slot{line(4, 4), line(4, 1, 4), line(4, 4, 4), line(4, 2, 4)})
		both(t, "at most one dir", at, [][]api.Slot{line(5), line(1, 5, 1), line(2, 5, 3), line(2, 4, 3, 5, 1)}, [][]api.Slot{line(5, 5), line(5, 1, 5), {slot(dirSlot), slot(dirSlot)}, append(first(dirSlot), slot(dirSlot)), line(5, 5, 5)})
	}
	fitting(t, "lines are counted apart", func(t *api.Tables) { t.Acts[0].Lines = many(8, line(2, 3, 4, 5)) }, func(t *api.Tables) {
		t.Acts = many(64, api.Act{Lines: [][]api.Slot{line(2, 2, 4, 5), line(3, 3, 4, 5)}})
	})
	fitting(t, "meta", func(t *api.Tables) { t.Acts[0].Meta, t.Acts[3].Meta = true, false })
}

func TestFitsDeeds(t *testing.T) {
	deed := manor().Deeds[0]
	both(t, "at most 512 deeds", func(t *api.Tables) *[]api.Deed { return &t.Deeds }, [][]api.Deed{nil, {}, {deed}, {deed, deed}, many(511, deed), many(512, deed)}, [][]api.Deed{many(513, deed), many(514, deed), many(5000, deed)})
	for i := range 3 {
		at := func(t *api.Tables) *api.Deed { return &t.Deeds[i] }
		both(t, "verb", func(t *api.Tables) *int { return &at(t).Verb }, []int{0, 1, 2, 3}, extremes(-1, -2, 4, 5))
		both(t, "phase", func(t *api.Tables) *int { return &at(t).Phase }, []int{1, 2, 3}, extremes(-1, 0, 4, 5))
		both(t, "noun", func(t *api.Tables) *int { return &at(t).Noun }, []int{-1, player, hall, lamp, rug}, extremes(-2, 0, pastThings, pastThings+1))
		both(t, "second", func(t *api.Tables) *int { return &at(t).Second }, []int{-1, player, hall, lamp, rug}, extremes(-2, 0, pastThings, pastThings+1))
		both(t, "when of a deed", func(t *api.Tables) *int { return &at(t).When }, []int{-1, wayWhen, daemon, body, deedWhen}, extremes(-2, twoParams, eightParams, pastRoutines, pastRoutines+1))
		both(t, "body", func(t *api.Tables) *int { return &at(t).Body }, []int{wayWhen, daemon, body, deedWhen}, extremes(-1, -2, twoParams, eightParams, pastRoutines, pastRoutines+1))
	}
}
