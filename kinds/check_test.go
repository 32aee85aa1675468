package kinds_test

import (
	"fmt"
	"slices"
	"strings"
	"testing"

	"clew/api"
	"clew/kinds"
)

// changed is the source whose text is base, with a change.
func changed(change func(s *api.Source)) api.Source {
	s := whole()
	change(&s)
	return s
}

// fault is what Check says about something wrong in that part.
func fault(err api.Errno, part, num int, name string) api.Fault {
	return api.Fault{Err: err, Part: part, Num: num, Name: name}
}

// TestCheckGood is 16.4: sources without a fault.
func TestCheckGood(t *testing.T) {
	checkFault(t, "the whole source", whole(), api.Fault{})
	checkFault(t, "a room alone", api.Source{Start: "hall", Objects: []api.Object{{Name: "hall", Room: true}}}, api.Fault{})
	checkFault(t, "nothing", api.Source{}, fault(api.ErrNone, partStory, 0, ""))
	checkFault(t, "empty lists", changed(func(s *api.Source) {
		s.Rules, s.Daemons[1].Body, s.Objects[5].Words, s.Objects[5].Exits = []api.Rule{}, []api.Stmt{}, []string{}, []api.Exit{}
	}), api.Fault{})
}

// spot is a place in a source where a name of that kind must stand.
type spot struct {
	label     string
	part, num int
	kind      int
	room      bool
	set       func(s *api.Source, name string)
}

// spots is all places in the source where a name must stand, apart from routines and conditions.
func spots(s api.Source) []spot {
	l := []spot{{"Start", partStory, 0, thingName, true, func(s *api.Source, name string) { s.Start = name }}}
	for i, o := range s.Objects {
		if !o.Room {
			l = append(l, spot{"In", partObject, i, thingName, false, func(s *api.Source, name string) { s.Objects[i].In = name }})
		}
		for k := range o.Flags {
			l = append(l, spot{"flag", partObject, i, flagName, false, func(s *api.Source, name string) { s.Objects[i].Flags[k] = name }})
		}
		for k := range o.Props {
			l = append(l, spot{"prop", partObject, i, propName, false, func(s *api.Source, name string) { s.Objects[i].Props[k].Name = name }})
		}
		for k := range o.Exits {
			l = append(l, spot{"To", partObject, i, thingName, true, func(s *api.Source, name string) { s.Objects[i].Exits[k].To = name }})
		}
	}
	for i := range s.Rules {
		l = append(l, spot{"Verb", partRule, i, verbName, false, func(s *api.Source, name string) { s.Rules[i].Verb = name }},
			spot{"Noun", partRule, i, thingName, false, func(s *api.Source, name string) { s.Rules[i].Noun = name }},
			spot{"Second", partRule, i, thingName, false, func(s *api.Source, name string) { s.Rules[i].Second = name }})
	}
	return l
}

// TestCheckNames is 16.4: each name of the source, and some others, in each place where a name must stand.
func TestCheckNames(t *testing.T) {
	base := whole()
	isRoom := func(name string) bool {
		return slices.ContainsFunc(base.Objects, func(o api.Object) bool { return o.Room && o.Name == name })
	}
	for _, p := range spots(base) {
		for _, name := range []string{"bad", "lam", "lamps", "x", "player", strings.Repeat("n", 24)} {
			checkFault(t, p.label, changed(func(s *api.Source) { p.set(s, name) }), fault(api.ErrNone, p.part, p.num, name))
		}
		for _, n := range made(base) {
			s := changed(func(s *api.Source) { p.set(s, n.Name) })
			switch {
			case n.Kind != p.kind || p.room && !isRoom(n.Name):
				checkFault(t, p.label, s, fault(api.ErrKind, p.part, p.num, n.Name))
			case p.label != "In":
				checkFault(t, p.label, s, api.Fault{})
			}
		}
	}
	for _, start := range []string{"hall", "cave", "yard"} {
		checkFault(t, "the start", changed(func(s *api.Source) { s.Start = start }), api.Fault{})
	}
}

// inside is a source with so many things, each of which is in the thing with that number, or in none if it is -1.
func inside(outer ...int) api.Source {
	s := api.Source{Start: "hall", Objects: []api.Object{{Name: "hall", Room: true}}}
	for i, k := range outer {
		o := api.Object{Name: fmt.Sprintf("t%d", i)}
		if k >= 0 {
			o.In = fmt.Sprintf("t%d", k)
		}
		s.Objects = append(s.Objects, o)
	}
	return s
}

// TestCheckInside is 16.4: objects that are inside themselves, and those that are inside such ones.
func TestCheckInside(t *testing.T) {
	checkState := func(s api.Source, num int, name string) {
		t.Helper()
		checkFault(t, "things within one another", s, fault(api.ErrState, partObject, num, name))
	}
	checkState(inside(0), 1, "t0")
	checkState(inside(1, 0), 1, "t1")
	checkState(inside(1, 1), 2, "t1")
	checkState(inside(-1, 1, 1), 2, "t1")
	checkState(inside(-1, 0, 1, 3), 4, "t3")
	checkState(inside(1, 2, 0), 1, "t1")
	checkState(inside(1, 2, 1), 2, "t2")
	checkState(inside(1, 2, 3, 2), 3, "t3")
	checkState(inside(3, 3, 1, 2, -1), 2, "t3")
	for _, l := range [][]int{{-1}, {-1, 0}, {1, -1}, {1, 2, 3, -1}, {-1, 0, 0, 0}, {4, 4, 4, 4, -1}} {
		checkFault(t, "things in others", inside(l...), api.Fault{})
	}
	for _, steps := range []int{3, 10, 63, 64, 124, 125} {
		row := list(steps, func(i int) int { return i + 1 })
		row[steps-1] = -1
		checkFault(t, "a long row", inside(row...), api.Fault{})
		for back := range steps {
			row[steps-1] = back
			checkState(inside(row...), back+1, inside(row...).Objects[back+1].In)
		}
		row = list(steps, func(i int) int { return i - 1 })
		checkFault(t, "a long row backwards", inside(row...), api.Fault{})
		row[0] = steps - 1
		checkState(inside(row...), 1, fmt.Sprintf("t%d", steps-1))
	}
	for i, o := range whole().Objects {
		if !o.Room {
			checkFault(t, "in itself", changed(func(s *api.Source) { s.Objects[i].In = o.Name }), fault(api.ErrState, partObject, i, o.Name))
		}
	}
	checkFault(t, "in what it contains", changed(func(s *api.Source) { s.Objects[1].In = "key" }), fault(api.ErrState, partObject, 1, "key"))
	checkFault(t, "in what is in something unknown", changed(func(s *api.Source) { s.Objects[1].In = "bad"; s.Objects[2].In = "wet" }), fault(api.ErrNone, partObject, 1, "bad"))
	checkFault(t, "in what is in a flag", changed(func(s *api.Source) { s.Objects[5].In = "wet"; s.Objects[4].In = "coin" }), fault(api.ErrKind, partObject, 5, "wet"))
}

// badWords and goodWords are texts that are no dictionary words, and words that look like none.
func badWords() []string {
	return []string{"", "Lamp", "lAmp", "-a", "'a", "-", "a b", " a", "a ", "a_b", "a.b", ",", "\n", "lantern_s", "abcdefghij", strings.Repeat("z", 1024)}
}
func goodWords() []string {
	return []string{"a", "z", "0", "9", "7-a", "o'neil", "a-", "a'", "in", "story", "abcdefghi", "123456789", "0'-'-'-'-"}
}

// wordLists is all lists of words in a source, each with where it is.
func wordLists(s *api.Source) (l []*[]string, at []api.Fault) {
	for i := range s.Objects {
		l = append(l, &s.Objects[i].Words, &s.Objects[i].Adjs)
		at = append(at, fault(0, partObject, i, ""), fault(0, partObject, i, ""))
	}
	for i, v := range s.Verbs {
		for _, line := range v.Lines {
			for k := range line {
				l = append(l, &line[k].Words)
				at = append(at, fault(0, partVerb, i, ""))
			}
		}
	}
	return l, at
}

// TestCheckWords is 16.4: each place of the words of objects and of slots.
func TestCheckWords(t *testing.T) {
	base := whole()
	all, at := wordLists(&base)
	for i, l := range all {
		for k := range *l {
			set := func(word string) api.Source {
				return changed(func(s *api.Source) { lists, _ := wordLists(s); (*lists[i])[k] = word })
			}
			for _, word := range badWords() {
				checkFault(t, "a bad word", set(word), fault(api.ErrName, at[i].Part, at[i].Num, word))
			}
			for _, word := range goodWords() {
				checkFault(t, "a good word", set(word), api.Fault{})
			}
		}
	}
	two := changed(func(s *api.Source) {
		s.Objects[0].Words[1], s.Objects[0].Words[2], s.Objects[0].Adjs[0] = "B", "C", "A"
	})
	checkFault(t, "words ahead of adjs", two, fault(api.ErrName, partObject, 0, "B"))
	two = changed(func(s *api.Source) { l := s.Verbs[3].Lines[2]; l[0].Words[2], l[0].Words[1] = "C", "B" })
	checkFault(t, "two words of a slot", two, fault(api.ErrName, partVerb, 3, "B"))
	two = changed(func(s *api.Source) { l := s.Verbs[0].Lines[2]; l[2].Words[0], l[0].Words[0] = "C", "D" })
	checkFault(t, "words of two slots", two, fault(api.ErrName, partVerb, 0, "D"))
}

// compass is a source with a room whose exits have these directions; the exit i leads to the room r<i>.
func compass(dirs ...int) api.Source {
	s := api.Source{Start: "hall", Objects: []api.Object{{Name: "hall", Room: true}, {Name: "chest"}}}
	for i, dir := range dirs {
		to := fmt.Sprintf("r%d", i)
		s.Objects = append(s.Objects, api.Object{Name: to, Room: true, Exits: []api.Exit{{Dir: dir, To: "hall"}}})
		s.Objects[0].Exits = append(s.Objects[0].Exits, api.Exit{Dir: dir, To: to})
	}
	return s
}

// TestCheckExits is 16.4: two exits of one direction, in each two places.
func TestCheckExits(t *testing.T) {
	all := []int{3, 1, 2, 12, 11, 10, 9, 4, 5, 6, 7, 8}
	checkFault(t, "exits of all directions", compass(all...), api.Fault{})
	for later := range all {
		for earlier := range later {
			dirs := slices.Clone(all)
			dirs[later] = dirs[earlier]
			want := fault(api.ErrTwice, partObject, 0, fmt.Sprintf("r%d", later))
			checkFault(t, "two exits of one direction", compass(dirs...), want)
			s := compass(dirs...)
			s.Objects[0].Exits[later].When = []api.Expr{expr("bad")}
			checkFault(t, "the direction ahead of the condition", s, want)
			s.Objects[0].Exits[later].To = "chest"
			checkFault(t, "the direction ahead of the room", s, fault(api.ErrTwice, partObject, 0, "chest"))
			s.Objects[0].Exits[earlier].When = []api.Expr{expr("worse")}
			checkFault(t, "an exit ahead of that", s, fault(api.ErrNone, partObject, 0, "worse"))
			s.Objects[0].Exits[earlier].To = "unknown"
			checkFault(t, "the room ahead of the condition", s, fault(api.ErrNone, partObject, 0, "unknown"))
		}
	}
	checkFault(t, "three exits of one direction", compass(1, 2, 2, 3, 2, 1), fault(api.ErrTwice, partObject, 0, "r2"))
}

// slots is a line of slots of these kinds: W a word, N a noun, M many, # a number, D a direction; E a word without words.
func slots(kinds string) []api.Slot {
	var l []api.Slot
	for i, kind := range kinds {
		switch kind {
		case 'W':
			l = append(l, api.Slot{Kind: 1, Words: []string{fmt.Sprintf("w%d", i)}})
		case 'E':
			l = append(l, api.Slot{Kind: 1})
		default:
			l = append(l, api.Slot{Kind: 1 + strings.IndexRune("WNM#D", kind)})
		}
	}
	return l
}

// TestCheckLines is 16.4: lines of verbs with each number of slots of each kind, in each place.
func TestCheckLines(t *testing.T) {
	for text, want := range map[string]api.Errno{
		"": api.ErrShort, "E": api.ErrShort, "WE": api.ErrShort, "EW": api.ErrShort, "WNEN": api.ErrShort, "NE": api.ErrShort, "WNNNE": api.ErrShort, "E#D": api.ErrShort, "D#DE": api.ErrShort,
		"W": api.OK, "D": api.OK, "N": api.ErrState, "M": api.ErrState, "#": api.ErrState, "NW": api.ErrState, "MW": api.ErrState, "#W": api.ErrState, "DW": api.OK, "WWWWWWWW": api.OK,
		"WN": api.OK, "WNN": api.OK, "WNNN": api.ErrState, "WM": api.OK, "WMM": api.OK, "WMMM": api.ErrState, "WNM": api.OK, "WMN": api.OK, "WNMN": api.ErrState, "WMNM": api.ErrState, "WNMM": api.ErrState, "DNWMWN": api.ErrState, "WWNWNWWW": api.OK, "WWNWNWWN": api.ErrState,
		"W#": api.OK, "W##": api.ErrState, "W#WWWWW#": api.ErrState, "D#": api.OK, "D##": api.ErrState, "WD": api.OK, "DD": api.ErrState, "WDD": api.ErrState, "DWWWWWWD": api.ErrState, "WNM#D": api.OK, "D#NWM": api.OK, "W#NDN": api.OK, "WNNDD": api.ErrState, "WNN##": api.ErrState, "WNNN#D": api.ErrState, "WWWWNM#D": api.OK,
	} {
		for _, num := range []int{0, 1, 3} {
			base, _ := shared()
			for k := range base.Verbs[num].Lines {
				s := changed(func(s *api.Source) { s.Verbs[num].Lines[k] = slots(text) })
				wanted := api.Fault{}
				if want != api.OK {
					wanted = fault(want, partVerb, num, s.Verbs[num].Name)
				}
				checkFault(t, "a line "+text, s, wanted)
			}
		}
	}
}

// TestCheckVerbs is 16.4: verbs without lines, and the order of the checks of a verb.
func TestCheckVerbs(t *testing.T) {
	for num, v := range whole().Verbs {
		checkFault(t, "a verb without lines", changed(func(s *api.Source) { s.Verbs[num].Lines = nil }), fault(api.ErrShort, partVerb, num, v.Name))
		checkFault(t, "a verb with an empty list of lines", changed(func(s *api.Source) { s.Verbs[num].Lines = [][]api.Slot{} }), fault(api.ErrShort, partVerb, num, v.Name))
	}
	check := func(what string, err api.Errno, name string, lines ...[]api.Slot) {
		t.Helper()
		checkFault(t, what, changed(func(s *api.Source) { s.Verbs[2].Lines = lines }), fault(err, partVerb, 2, name))
	}
	good, state := slots("WN"), slots("N")
	word := []api.Slot{{Kind: 1, Words: []string{"a", "Bad"}}}
	check("a word ahead of the kinds of slots", api.ErrName, "Bad", slices.Concat(slots("N"), word))
	check("a word ahead of the numbers of slots", api.ErrName, "Bad", slices.Concat(slots("WNNN"), word))
	check("an empty slot ahead of a word", api.ErrShort, "put", slices.Concat(word, slots("E")))
	check("an empty slot ahead of the kinds of slots", api.ErrShort, "put", slots("NE"))
	check("a line ahead of another one", api.ErrState, "put", good, state, word)
	check("a line ahead of another one", api.ErrName, "Bad", good, word, state)
	check("a line ahead of an empty one", api.ErrState, "put", state, nil)
	check("an empty line ahead of another one", api.ErrShort, "put", nil, word)
	check("the last of eight lines", api.ErrState, "put", good, good, good, good, good, good, good, state)
	checkFault(t, "eight lines", changed(func(s *api.Source) { s.Verbs[2].Lines = list(8, func(int) []api.Slot { return slots("WNWMWWW#") }) }), api.Fault{})
}

// TestCheckParams is 16.4: params that are no names, keywords, names of the source, or there twice.
func TestCheckParams(t *testing.T) {
	base := whole()
	for _, num := range []int{0, 1, 3, 4} {
		for k := range base.Funcs[num].Params {
			set := func(param string) api.Source {
				return changed(func(s *api.Source) { s.Funcs[num].Params[k] = param; s.Funcs[num].Body = nil })
			}
			for _, param := range append(strings.Fields(keywords), "", "A", "_a", "1a", "a-b", "a b", "\xff", strings.Repeat("a", 25)) {
				checkFault(t, "a param", set(param), fault(api.ErrName, partFunc, num, param))
			}
			for _, n := range made(base) {
				checkFault(t, "a param", set(n.Name), fault(api.ErrTwice, partFunc, num, n.Name))
			}
			for _, param := range []string{"d", "bad", "says", "a_", strings.Repeat("a", 24)} {
				checkFault(t, "a param", set(param), api.Fault{})
			}
			for earlier, param := range base.Funcs[num].Params[:k] {
				checkFault(t, fmt.Sprint("a param like that ahead at ", earlier), set(param), fault(api.ErrTwice, partFunc, num, param))
			}
		}
	}
	check := func(err api.Errno, name string, params ...string) {
		t.Helper()
		checkFault(t, fmt.Sprint("the params ", params), changed(func(s *api.Source) {
			s.Funcs[4].Params = params
			s.Funcs[4].Body = block("bad = 1;")
		}), fault(err, partFunc, 4, name))
	}
	check(api.ErrTwice, "wet", "wet", "In")
	check(api.ErrTwice, "wet", "q", "wet", "in")
	check(api.ErrTwice, "q", "q", "q", "")
	check(api.ErrName, "in", "in", "wet")
	check(api.ErrName, "in", "q", "in", "q")
	check(api.ErrName, "in", "in", "q", "q")
	check(api.ErrTwice, "idle", "q", "idle")
	check(api.ErrTwice, "r", "q", "r", "s", "r", "q")
	check(api.ErrNone, "bad", "u", "v", "q")
}

// limitAnswers is all statements of a routine, with what is said about them.
func limitAnswers() []answer {
	return []answer{{lets("l", 16), api.OK, ""}, {lets("l", 17), api.ErrCount, "l16"}, {eaches("l", 8), api.OK, ""}, {eaches("l", 9), api.ErrCount, "l8"}, {nested("l", 8, "look;"), api.OK, ""}, {lets("l", 15) + eaches("k", 1), api.ErrCount, "k0"}}
}

// bodyAnswers is statements at the end of a routine, with what is said about them.
func bodyAnswers() []answer {
	return []answer{{"", api.OK, ""}, {"let q = 1; q = 2;", api.OK, ""}, {"bad = 1;", api.ErrNone, "bad"}, {"look; wet = 1; bad = 1;", api.ErrKind, "wet"}, {"q = 1; let q = 1;", api.ErrNone, "q"}, {"let q = 1; let q = 2;", api.ErrTwice, "q"}, {"let lamp = 1;", api.ErrTwice, "lamp"},
		{"let q = 1; q = add(q, 1);", api.ErrCount, "add"}, {"if 1 { } else { tick(); }", api.ErrKind, "tick"}, {"say p1a, p1;", api.ErrNone, "p1a"}, {"set lamp is size;", api.ErrKind, "size"}, {"halt bad;", api.ErrNone, "bad"}}
}

// TestCheckRoutines is 16.4: what the statements of rules, funcs and daemons, and conditions, can contain.
func TestCheckRoutines(t *testing.T) {
	bodies := func(s *api.Source) map[api.Fault]*[]api.Stmt {
		l := map[api.Fault]*[]api.Stmt{}
		for i := range s.Rules {
			l[fault(0, partRule, i, "")] = &s.Rules[i].Body
		}
		for i := range s.Funcs {
			l[fault(0, partFunc, i, "")] = &s.Funcs[i].Body
		}
		for i := range s.Daemons {
			l[fault(0, partDaemon, i, "")] = &s.Daemons[i].Body
		}
		return l
	}
	base := whole()
	for at := range bodies(&base) {
		check := func(a answer, around []api.Stmt) {
			t.Helper()
			want := fault(a.err, at.Part, at.Num, a.name)
			if a.err == api.OK {
				want = api.Fault{}
			}
			l := append(slices.Clone(around), block(strings.ReplaceAll(a.text, "return x;", "return 1;"))...)
			checkFault(t, a.text, changed(func(s *api.Source) { *bodies(s)[at] = l }), want)
		}
		for _, a := range limitAnswers() {
			check(a, nil)
		}
		for _, a := range append(bodyAnswers(), stateAnswers(at.Part)...) {
			check(a, nil)
			check(a, *bodies(&base)[at])
		}
	}
	checkFault(t, "a let of a param", changed(func(s *api.Source) { s.Funcs[1].Body = block("let d = a; let c = d;") }), fault(api.ErrTwice, partFunc, 1, "c"))
	checkFault(t, "the param of another func", changed(func(s *api.Source) { s.Funcs[1].Body = block("a = b; x = 1;") }), fault(api.ErrNone, partFunc, 1, "x"))
	checkFault(t, "eight params and sixteen locals", changed(func(s *api.Source) { s.Funcs[3].Body = block(lets("l", 14) + "each e in p8 { p1 = e; p7 = l13; }") }), api.Fault{})
	checkFault(t, "a local of another daemon", changed(func(s *api.Source) { s.Daemons[1].Body = block("say x;") }), fault(api.ErrNone, partDaemon, 1, "x"))
	checkFault(t, "a local of another rule", changed(func(s *api.Source) { s.Rules[2].Body = block("say y;") }), fault(api.ErrNone, partRule, 2, "y"))
}

// TestCheckConditions is 16.4: conditions of exits and rules see no locals.
func TestCheckConditions(t *testing.T) {
	base, _ := shared()
	for _, a := range append(exprAnswers(), answer{"x", api.ErrNone, "x"}) {
		want := func(part, num int) api.Fault {
			if a.err == api.OK {
				return api.Fault{}
			}
			return fault(a.err, part, num, a.name)
		}
		r := reading{s: base}
		if r.expr(expr(a.text), nil); r.first().Err != a.err {
			continue
		}
		for i, o := range base.Objects {
			for k := range o.Exits {
				checkFault(t, "an exit if "+a.text, changed(func(s *api.Source) { s.Objects[i].Exits[k].When = []api.Expr{expr(a.text)} }), want(partObject, i))
			}
		}
		for i := range base.Rules {
			checkFault(t, "a rule if "+a.text, changed(func(s *api.Source) { s.Rules[i].When = []api.Expr{expr(a.text)} }), want(partRule, i))
		}
	}
	checkFault(t, "a condition with a local of the rule", changed(func(s *api.Source) { s.Rules[1].When = []api.Expr{expr("x > 3")} }), fault(api.ErrNone, partRule, 1, "x"))
	checkFault(t, "a condition with a local of the rule ahead", changed(func(s *api.Source) { s.Rules[2].When = []api.Expr{expr("x > 3")} }), fault(api.ErrNone, partRule, 2, "x"))
}

// TestCheckForeignNames is P1: names that are not those of the source do not lead to a panic.
func TestCheckForeignNames(t *testing.T) {
	s := whole()
	for _, n := range [][]api.Name{nil, made(api.Source{}), made(whole()), {{Name: "hall", Kind: thingName, Num: -1}}, {{Name: "hall", Kind: thingName, Num: 1 << 40}}, {{Name: "chest", Kind: thingName, Num: 999}, {Name: "hall", Kind: thingName, Num: 2}, {Name: "twice", Kind: funcName, Num: 99}, {Name: "zero", Kind: funcName, Num: -1}}} {
		kinds.Check(s, n)
		kinds.Check(api.Source{}, n)
		kinds.Expr(n, s, nil, expr("twice(hall) + zero()"))
		kinds.Expr(n, api.Source{}, nil, expr("twice(hall) + zero()"))
		kinds.Block(n, api.Source{}, nil, partRule, s.Rules[1].Body)
	}
}
