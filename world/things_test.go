package world_test

import (
	"math"
	"slices"
	"strings"
	"testing"

	"clew/api"
)

// withThings is the change to that many things, the further ones in the hall.
func withThings(n int) change {
	return func(t *api.Tables) {
		for len(t.Things) < n {
			t.Things = append(t.Things, api.Thing{Text: -1, Parent: hall, Props: []int{1, 2}})
		}
		t.Things = t.Things[:n]
	}
}

func TestFitsCountOfThings(t *testing.T) {
	small := func(n int) change {
		return func(t *api.Tables) {
			t.Things[player].Parent, t.Things[hall].Ways, t.Deeds = hall, nil, nil
			t.Things = t.Things[:n]
		}
	}
	fitting(t, "3 to 128 things", withThings(pastThings), withThings(pastThings+1), withThings(127), withThings(128), small(3), small(4))
	breaking(t, "3 to 128 things", withThings(129), withThings(130), withThings(300))
	failing(t, "3 to 128 things", small(2), small(1), small(0), func(t *api.Tables) { *t = changed(small(0)); t.Things = nil })
	// A room needs a third thing, unless the null thing were one.
	failing(t, "two things", func(t *api.Tables) { *t = changed(small(2)); t.Things[player].Parent = 0 }, func(t *api.Tables) { *t = changed(small(2)); t.Things[player].Room, t.Things[player].Parent = true, 0 },
		func(t *api.Tables) { *t = changed(small(2)); t.Things[0].Room, t.Things[player].Parent = true, 0 })
}

func TestFitsNullThing(t *testing.T) {
	null := func(field func(x *api.Thing)) change { return func(t *api.Tables) { field(&t.Things[0]) } }
	var l []change
	for _, n := range []int{-2, -1, 1, 2, 5, 6, math.MaxInt} {
		l = append(l, null(func(x *api.Thing) { x.Title = n }))
	}
	for _, n := range []int{-2, 0, 1, 5, 6, math.MinInt} {
		l = append(l, null(func(x *api.Thing) { x.Text = n }))
	}
	for _, n := range []int{-1, 1, 3, 63, 64} {
		l = append(l, null(func(x *api.Thing) { x.Flags = n }))
		for i := range 2 {
			l = append(l, null(func(x *api.Thing) { x.Props[i] = n }))
		}
	}
	for _, n := range []int{-1, hall, coin, pastThings} {
		l = append(l, null(func(x *api.Thing) { x.Parent = n }))
	}
	for _, props := range [][]int{nil, {}, {0}, {0, 0, 0}, {3, -4}} {
		l = append(l, null(func(x *api.Thing) { x.Props = props }))
	}
	l = append(l, null(func(x *api.Thing) { x.Room = true }), null(func(x *api.Thing) { x.Words = []string{"nothing"} }), null(func(x *api.Thing) { x.Words = []string{""} }),
		null(func(x *api.Thing) { x.Adjs = []string{"no"} }), null(func(x *api.Thing) { x.Ways = []api.Way{{Dir: 1, To: hall, When: -1, Else: -1}} }), null(func(x *api.Thing) { x.Ways = []api.Way{{}} }))
	breaking(t, "null thing", l...)
}

func TestFitsFieldsOfThings(t *testing.T) {
	for x := player; x < pastThings; x++ {
		thing := func(t *api.Tables) *api.Thing { return &t.Things[x] }
		both(t, "title of a thing", func(t *api.Tables) *int { return &thing(t).Title }, []int{0, 1, 5}, extremes(-1, -2, 6, 7))
		both(t, "text of a thing", func(t *api.Tables) *int { return &thing(t).Text }, []int{-1, 0, 1, 5}, extremes(-2, 6, 7))
		both(t, "flags of a thing", func(t *api.Tables) *int { return &thing(t).Flags }, []int{0, 1, 32, 62, 63}, extremes(-1, -2, 64, 65, 128))
		for _, flags := range []int{4, 5, 15, 16} {
			all := 1<<flags - 1
			with := func(n int) change {
				return func(t *api.Tables) { t.Flags, thing(t).Flags = flags, n }
			}
			fitting(t, "flags of a thing", with(0), with(all), with(all-1), with(1<<(flags-1)))
			breaking(t, "flags of a thing", with(-1), with(all+1), with(all+2), with(math.MinInt), with(-all-1))
		}
		props := func(t *api.Tables) *[]int { return &thing(t).Props }
		both(t, "as many props of a thing", props, [][]int{{0, 0}}, [][]int{nil, {}, {1}, {1, 2, 3}, make([]int, 16), make([]int, 100)})
		words, adjs := func(t *api.Tables) *[]string { return &thing(t).Words }, func(t *api.Tables) *[]string { return &thing(t).Adjs }
		few := [][]string{nil, {}, {"a"}, {"a", "a"}, many(7, "a"), many(8, "a")}
		both(t, "at most 8 words", words, few, [][]string{many(9, "a"), many(10, "a"), many(200, "a")})
		both(t, "at most 8 adjs", adjs, few, [][]string{many(9, "a"), many(10, "a"), many(200, "a")})
		for _, good := range []string{"a", "7", "0-'", "it's", "ninechars", "z9-z9-z9-", strings.Repeat("0", 9)} {
			fitting(t, "words", to(words, []string{good}, []string{"lamp", good}, []string{good, "lamp"})...)
			fitting(t, "adjs", to(adjs, []string{good}, []string{"lamp", good}, []string{good, "lamp"})...)
		}
		for _, bad := range []string{"", "-", "'a", "-a", "A", "aB", "tencharsxx", "a b", "a_b", "a.", "é", "a\n", ",", strings.Repeat("a", 300)} {
			breaking(t, "words", to(words, []string{bad}, []string{"lamp", bad}, []string{bad, "lamp"})...)
			breaking(t, "adjs", to(adjs, []string{bad}, []string{"lamp", bad}, []string{bad, "lamp"})...)
		}
	}
}

func TestFitsPlaces(t *testing.T) {
	parent := func(x int) func(t *api.Tables) *int { return func(t *api.Tables) *int { return &t.Things[x].Parent } }
	both(t, "a room has no parent", parent(hall), []int{0}, []int{cave, coin})
	both(t, "a room has no parent", parent(cave), []int{0}, []int{hall, coin, player, wick})
	both(t, "parent", parent(coin), []int{0, player, hall, cave, chair, lamp, wick, rug}, extremes(-1, -2, pastThings, pastThings+1))
	both(t, "parent", parent(rug), []int{0, player, hall, wick, coin}, extremes(-1, -2, pastThings, pastThings+1))
	failing(t, "parents of a room", to(parent(cave), extremes(-1, pastThings)...)...)

	breaking(t, "only rooms have ways", func(t *api.Tables) { t.Things[lamp].Ways = []api.Way{{Dir: 1, To: hall, When: -1, Else: -1}} }, func(t *api.Tables) { t.Things[player].Ways = t.Things[hall].Ways },
		func(t *api.Tables) { t.Things[rug].Ways = []api.Way{{}} }, func(t *api.Tables) { t.Things[coin].Ways = many(13, api.Way{Dir: -1}) })
	fitting(t, "only rooms have ways", func(t *api.Tables) { t.Things[hall].Ways, t.Things[cave].Ways = nil, nil }, func(t *api.Tables) { t.Things[coin].Room, t.Things[coin].Ways = true, t.Things[hall].Ways })
}

// inTurn is the change after which each of the things is in the next one, and the last one in the first one.
func inTurn(things ...int) change {
	return func(t *api.Tables) {
		for i, x := range things {
			t.Things[x].Parent = things[(i+1)%len(things)]
		}
	}
}

func TestFitsInside(t *testing.T) {
	breaking(t, "not inside itself", inTurn(coin), inTurn(rug), inTurn(wick), inTurn(lamp), inTurn(lamp, wick), inTurn(coin, rug), inTurn(wick, coin, rug), inTurn(lamp, coin, rug, wick),
		func(t *api.Tables) { inTurn(coin)(t); t.Things[rug].Parent = coin }, func(t *api.Tables) { inTurn(lamp, rug)(t); t.Things[wick].Parent, t.Things[coin].Parent = lamp, wick })
	failing(t, "the player inside itself", inTurn(player), inTurn(player, chair), inTurn(chair), inTurn(player, lamp), inTurn(player, wick, lamp), inTurn(player, chair, coin, rug, lamp, wick))
	failing(t, "rooms inside themselves", inTurn(hall), inTurn(cave), inTurn(hall, cave), inTurn(hall, chair, player), inTurn(player, hall))
	chain := func(last int) change {
		return func(t *api.Tables) {
			withThings(128)(t)
			for x := pastThings; x < 127; x++ {
				t.Things[x].Parent = x + 1
			}
			t.Things[127].Parent = last
		}
	}
	fitting(t, "not inside itself", chain(0), chain(hall), chain(wick), func(t *api.Tables) { chain(hall)(t); t.Things[player].Parent = pastThings },
		func(t *api.Tables) { chain(hall)(t); t.Things[coin].Parent = pastThings })
	breaking(t, "not inside itself", chain(127), chain(126), chain(pastThings), chain(60))
	failing(t, "the player in a long circle", func(t *api.Tables) { chain(player)(t); t.Things[player].Parent = pastThings })
}

func TestFitsPlayer(t *testing.T) {
	parent := func(t *api.Tables) *int { return &t.Things[player].Parent }
	both(t, "the player is in a room", parent, []int{hall, cave, chair, rug}, []int{0, coin})
	breaking(t, "the player is in a room", func(t *api.Tables) { t.Things[chair].Parent = 0 }, func(t *api.Tables) { t.Things[chair].Parent = coin },
		func(t *api.Tables) {
			t.Things[player].Parent, t.Things[rug].Parent, t.Things[chair].Parent = rug, chair, coin
		})
	failing(t, "a player in nothing", to(parent, extremes(-1, pastThings, player, lamp, wick)...)...)
	breaking(t, "the player is no room", func(t *api.Tables) { t.Things[player].Room, t.Things[player].Parent = true, 0 },
		func(t *api.Tables) {
			t.Things[player].Room, t.Things[player].Parent = true, 0
			t.Things[player].Ways = slices.Clone(t.Things[hall].Ways)
		})
	failing(t, "a player that is a room", func(t *api.Tables) { t.Things[player].Room = true }, func(t *api.Tables) { t.Things[player].Room, t.Things[player].Parent = true, hall })
	failing(t, "a hall that is no room", func(t *api.Tables) { t.Things[hall].Room = false }, func(t *api.Tables) { t.Things[hall].Room, t.Things[hall].Ways = false, nil })
	fitting(t, "a thing that becomes a room", func(t *api.Tables) { t.Things[coin].Room = true }, func(t *api.Tables) { t.Things[chair].Room, t.Things[chair].Parent = true, 0 })
}

// withWays is the change of the hall's ways to some in these directions.
func withWays(dirs ...int) change {
	return func(t *api.Tables) {
		t.Things[hall].Ways = nil
		for _, dir := range dirs {
			t.Things[hall].Ways = append(t.Things[hall].Ways, api.Way{Dir: dir, To: cave, When: -1, Else: -1})
		}
	}
}

func TestFitsDirections(t *testing.T) {
	fitting(t, "ways ascend", withWays(), withWays(1), withWays(12), withWays(1, 2), withWays(11, 12), withWays(3, 7, 9), withWays(1, 2, 3, 4, 5, 6, 7, 8, 9, 10, 11, 12))
	breaking(t, "ways ascend", withWays(1, 1), withWays(12, 12), withWays(2, 1), withWays(12, 11), withWays(1, 3, 2), withWays(1, 3, 3), withWays(2, 1, 3), withWays(4, 5, 6, 4), withWays(12, 11, 10, 9, 8, 7, 6, 5, 4, 3, 2, 1), withWays(1, 2, 3, 4, 5, 6, 7, 8, 9, 10, 11, 12, 12))
	breaking(t, "dir", withWays(0), withWays(13), withWays(-1), withWays(0, 1), withWays(12, 13), withWays(-2, -1, 0, 1), withWays(14), withWays(math.MaxInt), withWays(math.MinInt), withWays(0, 1, 2, 3, 4, 5, 6, 7, 8, 9, 10, 11, 12), withWays(1, 2, 3, 4, 5, 6, 7, 8, 9, 10, 11, 12, 13), withWays(256+1))
	breaking(t, "dir", func(t *api.Tables) { t.Things[cave].Ways[0].Dir = 0 }, func(t *api.Tables) { t.Things[cave].Ways[0].Dir = 13 })
}

func TestFitsWays(t *testing.T) {
	for i := range 3 {
		way := func(t *api.Tables) *api.Way {
			return slices.Concat([]*api.Way{&t.Things[cave].Ways[0]}, []*api.Way{&t.Things[hall].Ways[0], &t.Things[hall].Ways[1]})[i]
		}
		both(t, "to", func(t *api.Tables) *int { return &way(t).To }, []int{hall, cave}, extremes(-1, 0, player, chair, lamp, coin, rug, pastThings, pastThings+1))
		both(t, "when of a way", func(t *api.Tables) *int { return &way(t).When }, []int{-1, wayWhen, daemon, body, deedWhen}, extremes(-2, twoParams, eightParams, pastRoutines, pastRoutines+1))
		both(t, "else", func(t *api.Tables) *int { return &way(t).Else }, []int{-1, 0, 1, 5}, extremes(-2, 6, 7))
	}
	failing(t, "ways and the null thing", func(t *api.Tables) { t.Things[0].Room, t.Things[cave].Ways[0].To = true, 0 })
}
