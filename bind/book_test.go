package bind_test

import (
	"fmt"
	"slices"
	"strings"
	"testing"

	"clew/api"
	"clew/bind"
	"clew/kinds"
)

// tables is the tables of a source's book.
func tables(t *testing.T, s api.Source) api.Tables {
	t.Helper()
	return book(t, s).Tables
}

// tablesOf is the tables of the source whose text begins with head and goes on with rest.
func tablesOf(t *testing.T, rest string) api.Tables {
	t.Helper()
	return tables(t, source(head+rest))
}

// thingsOfBase is the things of base.
func thingsOfBase() []api.Thing {
	return []api.Thing{
		{Text: -1, Props: []int{0, 0, 0}},
		{Title: 2, Text: -1, Parent: 8, Props: []int{1, -2, 3}, Words: []string{"me", "myself"}},
		{Title: 3, Text: 4, Flags: 1<<0 | 1<<4 | 1<<6, Room: true, Props: []int{4, 5, 6}, Words: []string{"hall", "room"}, Adjs: []string{"big", "old"}, Ways: []api.Way{{Dir: 1, To: 8, When: -1, Else: -1}, {Dir: 3, To: 2, When: -1, Else: 1}, {Dir: 9, To: 8, When: 0, Else: 5}, {Dir: 11, To: 4, When: 1, Else: -1}}},
		{Title: 6, Text: -1, Parent: 2, Flags: 1<<1 | 1<<2, Props: []int{1, -2, 9}, Words: []string{"chest"}},
		{Title: 7, Text: -1, Room: true, Props: []int{1, -2, 3}, Ways: []api.Way{{Dir: 10, To: 2, When: 2, Else: -1}}},
		{Title: 8, Text: 9, Parent: 3, Flags: 1<<3 | 1<<5, Props: []int{7, 3, 3}, Words: []string{"lamp", "light", "lantern"}, Adjs: []string{"brass"}},
		{Title: 2, Text: -1, Parent: 5, Props: []int{1, -2, 3}, Words: []string{"key"}},
		{Title: 10, Text: -1, Props: []int{1, -2, 3}},
		{Title: 11, Text: 3, Room: true, Props: []int{1, -2, 3}},
	}
}

// tablesOfBase is the tables of base.
func tablesOfBase() api.Tables {
	word := func(words ...string) api.Slot { return api.Slot{Kind: 1, Words: words} }
	noun, many, number, dir := api.Slot{Kind: 2}, api.Slot{Kind: 3}, api.Slot{Kind: 4}, api.Slot{Kind: 5}
	return api.Tables{
		Title: 0, By: 1, Release: 7, Max: 50, Texts: textsOfBase(), Flags: 7, Props: []int{1, -2, 3}, Globals: []int{0, 30, -1}, Things: thingsOfBase(),
		Acts: []api.Act{
			{Lines: [][]api.Slot{{word("take", "get", "grab"), many}, {word("pick"), word("up"), noun}, {word("lift"), noun, word("off", "from"), many}}},
			{Meta: true, Lines: [][]api.Slot{{word("wait")}, {word("z", "rest"), number}}},
			{Lines: [][]api.Slot{{dir}, {word("go", "walk"), dir}}},
		},
		Deeds: []api.Deed{
			{Verb: 0, Phase: 1, Noun: 5, Second: 3, When: 3, Body: 4}, {Verb: 1, Phase: 2, Noun: -1, Second: -1, When: -1, Body: 5},
			{Verb: 2, Phase: 3, Noun: -1, Second: 8, When: 6, Body: 7}, {Verb: 0, Phase: 2, Noun: 7, Second: -1, When: -1, Body: 8},
		},
		Funcs: []int{9, 10, 11}, Daemons: []int{12, 13},
		Params: []int{0, 0, 0, 0, 0, 0, 0, 0, 0, 1, 3, 0, 0, 0}, Locals: []int{0, 0, 0, 0, 0, 5, 0, 0, 0, 1, 6, 0, 0, 1},
	}
}

// routinesOfBase is the routines of base.
func routinesOfBase() [][]api.Stmt {
	back := func(e api.Expr) []api.Stmt { return []api.Stmt{stmt(give, 0, e)} }
	sub := func(a, b api.Expr) api.Expr { return bin(11, a, b) }
	return [][]api.Stmt{
		back(bin(3, call(0, global(2)), prop(num(6), 2))), back(has(num(5), 0)), back(num(1)),
		back(bin(9, num(5), num(3))), {stmt(stop, 0)},
		{
			stmt(let, 0, global(0)),
			when(local(0), []api.Stmt{stmt(let, 1, local(0)), stmt(say, 0, local(1), text(9))}, []api.Stmt{loop(each, 2, local(0), stmt(say, 0, local(2), of(title, num(6)), text(12)))}),
			stmt(let, 4, local(0)), stmt(assignGlobal, 0, local(4)), stmt(assign, 0, num(2)),
		},
		back(bin(3, self(1), num(8))), {stmt(start, 1, global(1)), stmt(halt, 0)},
		{stmt(say, 0, text(0), text(13))},
		back(bin(12, local(0), num(2))),
		{stmt(let, 3, bin(10, local(0), local(1))), loop(each, 4, local(3), stmt(assign, 3, bin(10, local(3), local(4)))), stmt(give, 0, bin(10, local(3), local(2)))},
		{stmt(assignGlobal, 1, num(0)), stmt(put, 1, num(5), call(1, num(1), call(0, num(2)), num(2))), stmt(say, 0, text(14))},
		{stmt(set, 5, num(5)), stmt(unset, 0, num(6)), stmt(say, 0, text(15))},
		{loop(while, 0, global(0), stmt(let, 0, global(0)), stmt(assignGlobal, 0, sub(local(0), num(1))))},
	}
}

// bookOfBase is the book of base.
func bookOfBase() api.Book {
	return api.Book{Tables: tablesOfBase(), Routines: routinesOfBase()}
}

// TestBook is 17.2: a whole book.
func TestBook(t *testing.T) {
	got, want := book(t, whole()), bookOfBase()
	for i, thing := range want.Tables.Things {
		check(t, fmt.Sprint("thing ", i), got.Tables.Things[i], thing)
	}
	for i, l := range want.Routines {
		check(t, fmt.Sprint("routine ", i), got.Routines[i], l)
	}
	check(t, "the book", got, want)
}

// TestBookNumbers is 17.2: Release, Max, the props and the globals.
func TestBookNumbers(t *testing.T) {
	for _, n := range []int{0, 1, 2, 255, 32767} {
		got := tables(t, changed(func(s *api.Source) { s.Release = n }))
		check(t, "Release and Max", []int{got.Release, got.Max}, []int{n, 50})
		got = tables(t, changed(func(s *api.Source) { s.Max = n }))
		check(t, "Release and Max", []int{got.Release, got.Max}, []int{7, n})
	}
	for _, l := range [][]int{nil, {0}, {5}, {-1}, {3, 3}, {32767, -32767, 0}, {9, 8, 7, 6, 5, 4, 3, 2, 1, 0, -1, -2, -3, -4, -5, -6}} {
		pairs := func(prefix string) []api.Pair {
			return list(len(l), func(i int) api.Pair { return api.Pair{Name: prefix + fmt.Sprint(len(l)-i), Num: l[i]} })
		}
		s := source(head + `room hall "Hall" { } thing lamp "lamp" { }`)
		s.Props = pairs("p")
		got := tables(t, s)
		check(t, "Props", got.Props, l)
		check(t, "Globals", len(got.Globals), 0)
		check(t, "the props of the null thing", got.Things[0].Props, make([]int, len(l)))
		for i := 1; i < 4; i++ {
			check(t, "the props of a thing", got.Things[i].Props, l)
		}
		s = source(head + `room hall "Hall" { }`)
		s.Globals = pairs("g")
		got = tables(t, s)
		check(t, "Globals", got.Globals, l)
		check(t, "Props", len(got.Props), 0)
	}
	s := source(head + `room hall "Hall" { }`)
	s.Globals = list(64, func(i int) api.Pair { return api.Pair{Name: fmt.Sprint("g", 99-i), Num: 3 * i} })
	check(t, "64 globals", tables(t, s).Globals, list(64, func(i int) int { return 3 * i }))
}

// TestBookFlags is 17.2: how many flags there are, and the bit mask of an object's flags.
func TestBookFlags(t *testing.T) {
	for count := range 13 {
		declared := list(count, func(i int) string { return fmt.Sprint("f", 50-i) })
		all := append([]string{"lit", "open", "box", "hidden"}, declared...)
		s := source(head + `room hall "Hall" { } thing lamp "lamp" { }`)
		s.Flags = declared
		got := tables(t, s)
		check(t, "Flags", got.Flags, 4+count)
		check(t, "the flags of a thing", got.Things[3].Flags, 0)
		check(t, "the flags of the player", got.Things[1].Flags, 0)
		for i, flag := range all {
			s.Objects[1].Flags = []string{flag}
			check(t, "the flag "+flag, tables(t, s).Things[3].Flags, 1<<i)
			for k, other := range all {
				s.Objects[1].Flags, s.Objects[0].Flags = []string{flag, other}, []string{other, flag, other}
				got := tables(t, s)
				check(t, "two flags", []int{got.Things[2].Flags, got.Things[3].Flags}, []int{1<<i | 1<<k, 1<<i | 1<<k})
			}
		}
		s.Objects[0].Flags, s.Objects[1].Flags = nil, all
		got = tables(t, s)
		check(t, "all flags", []int{got.Things[0].Flags, got.Things[1].Flags, got.Things[2].Flags, got.Things[3].Flags}, []int{0, 0, 0, 1<<(4+count) - 1})
	}
}

// TestBookProps is 17.2: props of an object that are given once, twice, often and not at all.
func TestBookProps(t *testing.T) {
	for items, want := range map[string][]int{
		"": {10, 20, 30}, "a = 1;": {1, 20, 30}, "b = 1;": {10, 1, 30}, "c = 1;": {10, 20, 1}, "a = 0;": {0, 20, 30}, "c = -5;": {10, 20, -5}, "a = 1; b = 2; c = 3;": {1, 2, 3}, "c = 1; b = 2; a = 3;": {3, 2, 1},
		"a = 1; a = 2;": {2, 20, 30}, "a = 2; a = 1;": {1, 20, 30}, "b = 1; b = 20;": {10, 20, 30}, "c = 1; c = 2; c = 3;": {10, 20, 3}, "a = 1; b = 2; a = 3; b = 4; a = 5;": {5, 4, 30}, "a = 1; c = 7; a = 0;": {0, 20, 7},
		"c = 1; c = 2; c = 3; c = 4; c = 5; c = 6; c = 7; c = 8; c = 9; c = 10; c = 11; c = 12; c = 13; c = 14; c = 15; c = 16;": {10, 20, 16},
	} {
		for _, order := range []string{"c = 30; prop a = 10; prop b = 20", "b = 20; prop a = 10; prop c = 30"} {
			got := tablesOf(t, `prop `+order+`; room hall "Hall" {`+items+`} thing lamp "lamp" { } thing key "key" {`+items+`}`)
			sorted := func(l []int) []int {
				if order[0] == 'c' {
					return []int{l[2], l[0], l[1]}
				}
				return []int{l[1], l[0], l[2]}
			}
			check(t, "the defaults", got.Props, sorted([]int{10, 20, 30}))
			check(t, "the null thing", got.Things[0].Props, []int{0, 0, 0})
			check(t, "the player", got.Things[1].Props, sorted([]int{10, 20, 30}))
			check(t, "the room", got.Things[2].Props, sorted(want))
			check(t, "the thing between", got.Things[3].Props, sorted([]int{10, 20, 30}))
			check(t, "the thing", got.Things[4].Props, sorted(want))
		}
	}
}

// TestBookActs is 17.2: the Meta and the Lines of the verbs.
func TestBookActs(t *testing.T) {
	s := source(head + `room hall "Hall" { }`)
	check(t, "no acts", len(tables(t, s).Acts), 0)
	for meta := range 8 {
		s.Verbs, s.Rules = nil, nil
		lines := []string{"W", "WN", "D", "WMWN", "WD#", "WWWWWWWW", "D#", "WM"}
		var want []api.Act
		for i := range 3 {
			v := api.Verb{Name: fmt.Sprint("v", 9-i), Meta: meta>>i&1 == 1}
			a := api.Act{Meta: v.Meta}
			for k := range 1 + (meta*3+i*5)%8 {
				v.Lines, a.Lines = append(v.Lines, slots(lines[k])), append(a.Lines, slots(lines[k]))
			}
			s.Verbs, want = append(s.Verbs, v), append(want, a)
		}
		check(t, "the acts", tables(t, s).Acts, want)
	}
	words := [][]string{{"a"}, {"b", "c"}, {"d", "e", "f", "g"}, {"a", "a"}, {"a", "b"}}
	line := append([]api.Slot{{Kind: 5}}, list(len(words), func(i int) api.Slot { return api.Slot{Kind: 1, Words: words[i]} })...)
	s.Verbs = list(64, func(i int) api.Verb { return api.Verb{Name: fmt.Sprint("v", i), Lines: [][]api.Slot{line[i%2:], line}} })
	check(t, "64 acts", tables(t, s).Acts, list(64, func(i int) api.Act { return api.Act{Lines: [][]api.Slot{line[i%2:], line}} }))
}

// TestBookPlayer is 17.2: the null thing and the player, who begins at Start.
func TestBookPlayer(t *testing.T) {
	for _, start := range []string{"hall", "cave", "yard"} {
		got := tables(t, changed(func(s *api.Source) { s.Start = start })).Things
		want := thingsOfBase()
		want[1].Parent = map[string]int{"hall": 2, "cave": 4, "yard": 8}[start]
		check(t, "the things", got, want)
	}
	for first, title := range map[string]int{`"a" by "b"`: 2, `"a" by "a"`: 1, `"yourself" by "b"`: 0, `"a" by "yourself"`: 1, `"yourself" by "yourself"`: 0, `"" by ""`: 1} {
		got := tables(t, source("story "+first+` release 1 max 5 start hall; room hall "Hall" { }`)).Things
		check(t, "the null thing", got[0], api.Thing{Text: -1})
		check(t, "the player of "+first, got[1], api.Thing{Title: title, Text: -1, Parent: 2, Words: []string{"me", "myself"}})
	}
}

// TestBookObjects is 17.2: an object with each of its fields alone.
func TestBookObjects(t *testing.T) {
	bare := api.Thing{Title: 4, Text: -1, Props: []int{5, 6}}
	for object, change := range map[string]func(o *api.Thing){
		`thing x "x" { }`: func(o *api.Thing) {}, `room x "x" { }`: func(o *api.Thing) { o.Room = true }, `thing x "" { }`: func(o *api.Thing) {}, `room x "Hall" { }`: func(o *api.Thing) { o.Title, o.Room = 3, true }, `thing x "yourself" { }`: func(o *api.Thing) { o.Title = 2 }, `thing x "me" { }`: func(o *api.Thing) { o.Title = 1 }, `thing x "Tale" { }`: func(o *api.Thing) { o.Title = 0 },
		`thing x "x" { text "y"; }`: func(o *api.Thing) { o.Text = 5 }, `room x "x" { text "y"; }`: func(o *api.Thing) { o.Text, o.Room = 5, true }, `thing x "x" { text "x"; }`: func(o *api.Thing) { o.Text = 4 }, `thing x "x" { text "Tale"; }`: func(o *api.Thing) { o.Text = 0 }, `thing x "" { text ""; }`: func(o *api.Thing) {}, `thing x "x" { text "me"; }`: func(o *api.Thing) { o.Text = 1 },
		`thing x "x" in hall { }`: func(o *api.Thing) { o.Parent = 2 }, `thing x "x" in lamp { }`: func(o *api.Thing) { o.Parent = 4 }, `thing x "x" { words "a"; }`: func(o *api.Thing) { o.Words = []string{"a"} }, `room x "x" { words "b", "a", "b"; }`: func(o *api.Thing) { o.Words, o.Room = []string{"b", "a", "b"}, true },
		`thing x "x" { adjs "a"; }`: func(o *api.Thing) { o.Adjs = []string{"a"} }, `thing x "x" { adjs "b", "c"; words "a", "d"; adjs "a"; }`: func(o *api.Thing) { o.Words, o.Adjs = []string{"a", "d"}, []string{"b", "c", "a"} },
		`thing x "x" { is box; }`: func(o *api.Thing) { o.Flags = 4 }, `thing x "x" { is wet, box; is lit; }`: func(o *api.Thing) { o.Flags = 1 + 4 + 16 }, `thing x "x" { is lit, lit, lit; }`: func(o *api.Thing) { o.Flags = 1 }, `thing x "x" { b = 1; }`: func(o *api.Thing) { o.Props = []int{5, 1} },
		`room x "x" { exit in to hall; }`: func(o *api.Thing) { o.Room, o.Ways = true, []api.Way{{Dir: 11, To: 2, When: -1, Else: -1}} }, `room x "x" { exit up to x else "y"; }`: func(o *api.Thing) { o.Room, o.Ways = true, []api.Way{{Dir: 9, To: 3, When: -1, Else: 5}} },
		`room x "x" { exit up to x if 1; }`: func(o *api.Thing) { o.Room, o.Ways = true, []api.Way{{Dir: 9, To: 3, When: 0, Else: -1}} }, `room x "x" { exit up to x if 0 else ""; }`: func(o *api.Thing) { o.Room, o.Ways = true, []api.Way{{Dir: 9, To: 3, When: 0, Else: -1}} }, `room x "x" { exit up to x if 0 else "Hall"; }`: func(o *api.Thing) { o.Room, o.Ways = true, []api.Way{{Dir: 9, To: 3, When: 0, Else: 3}} },
		`room x "x" { text "y"; words "a"; adjs "b"; is open; a = 1; exit west to hall if 1 else "Tale"; }`: func(o *api.Thing) {
			*o = api.Thing{Title: 4, Text: 5, Room: true, Flags: 2, Props: []int{1, 6}, Words: []string{"a"}, Adjs: []string{"b"}, Ways: []api.Way{{Dir: 4, To: 2, When: 0, Else: 0}}}
		},
	} {
		want := bare
		change(&want)
		got := tablesOf(t, `flag wet; prop a = 5; prop b = 6; room hall "Hall" { }`+object+`thing lamp "last" { }`).Things
		check(t, "the object "+object, got[3], want)
		room := api.Thing{Title: 3, Text: -1, Room: true, Props: []int{5, 6}}
		check(t, "the room ahead of it", got[2], room)
		check(t, "how many things there are", len(got), 5)
		got[4].Title = 0
		check(t, "the thing behind it", got[4], api.Thing{Text: -1, Props: []int{5, 6}})
	}
	full := source(head + `room hall "Hall" { }`)
	for i := range 125 {
		full.Objects = append(full.Objects, api.Object{Name: fmt.Sprint("o", 900-i), Title: fmt.Sprint("t", i), In: []string{"hall", "", fmt.Sprint("o", 900-i+1), fmt.Sprint("o", 900-i+2)}[i%4]})
	}
	for i, o := range tables(t, full).Things[3:] {
		check(t, "an object of many", o, api.Thing{Title: 4 + i, Text: -1, Parent: []int{2, 0, i + 2, i + 1}[i%4]})
	}
}

// TestBookIn is 17.2: the Parent of an object whose In is empty, a room, a thing ahead of it or behind it, or the player.
func TestBookIn(t *testing.T) {
	base := whole()
	for i, o := range base.Objects {
		for _, in := range append([]string{""}, list(len(base.Objects), func(k int) string { return base.Objects[k].Name })...) {
			s := changed(func(s *api.Source) { s.Objects[i].In = in })
			if o.Room || kinds.Check(s, made(s)) != (api.Fault{}) {
				continue
			}
			want := thingsOfBase()
			want[2+i].Parent = 0
			if in != "" {
				want[2+i].Parent = thingNamed(base, in)
			}
			check(t, "the things where "+o.Name+" is in "+in, tables(t, s).Things, want)
		}
	}
	// No source declares the player, but names can have an entry for it like for any other thing.
	s := changed(func(s *api.Source) { s.Objects[5].In = "player" })
	n := append(made(s), api.Name{Name: "player", Kind: api.NameThing, Num: api.Player})
	slices.SortFunc(n, func(a, b api.Name) int { return strings.Compare(a.Name, b.Name) })
	want := bookOfBase()
	want.Tables.Things[7].Parent = 1
	check(t, "the book where a thing is in the player", bind.Book(s, n), want)
}

// permutations is all orders of the numbers below n.
func permutations(n int) [][]int {
	if n == 0 {
		return [][]int{nil}
	}
	var l [][]int
	for _, shorter := range permutations(n - 1) {
		for i := range n {
			l = append(l, slices.Insert(slices.Clone(shorter), i, n-1))
		}
	}
	return l
}

// TestBookWays is 17.2: exits in any order, with and without When and Else.
func TestBookWays(t *testing.T) {
	dirs := []int{2, 5, 9, 12}
	for _, order := range permutations(4) {
		for given := range 256 {
			s := source(head + `room cave "Cave" { exit down to hall if 7; } room hall "Hall" { } room yard "Yard" { exit up to hall if 8; }`)
			want, routines := make([]api.Way, 4), [][]api.Stmt{{stmt(give, 0, num(7))}}
			for i, k := range order {
				e, w := api.Exit{Dir: dirs[k], To: []string{"hall", "yard"}[i%2]}, api.Way{Dir: dirs[k], To: []int{3, 4}[i%2], When: -1, Else: -1}
				if given>>k&1 == 1 {
					e.When, w.When = []api.Expr{num(100 + k)}, len(routines)
					routines = append(routines, []api.Stmt{stmt(give, 0, num(100+k))})
				}
				if given>>k>>4&1 == 1 {
					e.Else, w.Else = []string{"Hall", "Tale"}[k%2], []int{4, 0}[k%2]
				}
				s.Objects[1].Exits, want[k] = append(s.Objects[1].Exits, e), w
			}
			got := book(t, s)
			check(t, fmt.Sprint("the ways in the order ", order), got.Tables.Things[3].Ways, want)
			check(t, "the way ahead of them", got.Tables.Things[2].Ways, []api.Way{{Dir: 10, To: 3, When: 0, Else: -1}})
			check(t, "the way behind them", got.Tables.Things[4].Ways, []api.Way{{Dir: 9, To: 3, When: len(routines), Else: -1}})
			check(t, "the routines", got.Routines, append(routines, []api.Stmt{stmt(give, 0, num(8))}))
		}
	}
}

// TestBookAllWays is 17.2: twelve exits, from any direction on, forwards and backwards.
func TestBookAllWays(t *testing.T) {
	for first := range 12 {
		for _, step := range []int{1, 5, 7, 11} {
			s := source(head + `room hall "Hall" { }`)
			want := make([]api.Way, 12)
			for i := range 12 {
				dir := 1 + (first+i*step)%12
				s.Objects[0].Exits = append(s.Objects[0].Exits, api.Exit{Dir: dir, To: "hall", Else: fmt.Sprint(i), When: []api.Expr{num(i)}})
				want[dir-1] = api.Way{Dir: dir, To: 2, When: i, Else: 4 + i}
			}
			got := book(t, s)
			check(t, "twelve ways", got.Tables.Things[2].Ways, want)
			check(t, "their routines", got.Routines, list(12, func(i int) []api.Stmt { return []api.Stmt{stmt(give, 0, num(i))} }))
		}
	}
}

// TestBookBare is 17.2: a source with a room and nothing else.
func TestBookBare(t *testing.T) {
	check(t, "the book", book(t, source(`story "" by "" release 0 max 0 start x; room x "" { }`)), api.Book{Tables: api.Tables{
		Texts: []string{"", "yourself"}, Flags: 4, Things: []api.Thing{{Text: -1}, {Title: 1, Text: -1, Parent: 2, Words: []string{"me", "myself"}}, {Text: -1, Room: true}},
	}})
}
