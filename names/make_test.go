package names_test

import (
	"fmt"
	"reflect"
	"strings"
	"testing"

	"clew/api"
	"clew/decl"
	"clew/names"
)

// predefined is the names of a source that declares nothing.
func predefined() []api.Name {
	return []api.Name{{Name: "box", Kind: 1, Num: 2}, {Name: "hidden", Kind: 1, Num: 3}, {Name: "lit", Kind: 1, Num: 0}, {Name: "open", Kind: 1, Num: 1}}
}

// TestMakeNothing is 15.1: the four predefined flags are there from the beginning.
func TestMakeNothing(t *testing.T) {
	checkMade(t, "a source with nothing", api.Source{}, predefined())
	checkMade(t, "a source with empty lists", api.Source{Flags: []string{}, Props: []api.Pair{}, Globals: []api.Pair{}, Objects: []api.Object{}, Verbs: []api.Verb{}, Rules: []api.Rule{}, Funcs: []api.Func{}, Daemons: []api.Func{}}, predefined())
	checkMade(t, "a source with a head alone", api.Source{Title: "T", By: "A", Start: "hall", Release: 1, Max: 2}, predefined())
}

// TestMakeExample is the example of chapter 15, read from texts.
func TestMakeExample(t *testing.T) {
	const head = `story "T" by "A" release 1 max 0 start hall; flag red; `
	s, fail := decl.Read(head + `room hall "Hall" { }`)
	if fail != (api.Fail{}) {
		t.Fatal("the source is not read", fail)
	}
	checkMade(t, "the example", s, []api.Name{{Name: "box", Kind: 1, Num: 2}, {Name: "hall", Kind: 4, Num: 2}, {Name: "hidden", Kind: 1, Num: 3}, {Name: "lit", Kind: 1}, {Name: "open", Kind: 1, Num: 1}, {Name: "red", Kind: 1, Num: 4}})
	s, fail = decl.Read(head + `room open "Hall" { }`)
	if fail != (api.Fail{}) {
		t.Fatal("the source is not read", fail)
	}
	checkFault(t, "a room named open", s, api.Fault{Err: api.ErrTwice, Part: api.PartObject, Name: "open"})
}

// TestMakeEveryKind is 15.1: the numbers of the names of each kind, in the order of their texts.
func TestMakeEveryKind(t *testing.T) {
	s := api.Source{
		Flags:   []string{"wet", "red"},
		Props:   []api.Pair{{Name: "size", Num: 9}, {Name: "cost", Num: -1}},
		Globals: []api.Pair{{Name: "time", Num: 5}, {Name: "count"}},
		Objects: []api.Object{{Name: "yard", Room: true}, {Name: "hall", Room: true}, {Name: "lamp"}},
		Verbs:   []api.Verb{{Name: "take"}, {Name: "drop"}},
		Rules:   []api.Rule{{Verb: "take"}, {Verb: "jump"}},
		Funcs:   []api.Func{{Name: "twice"}, {Name: "half"}},
		Daemons: []api.Func{{Name: "tock"}, {Name: "clock"}},
	}
	checkMade(t, "every kind", s, []api.Name{
		{Name: "box", Kind: api.NameFlag, Num: 2}, {Name: "clock", Kind: api.NameDaemon, Num: 1}, {Name: "cost", Kind: api.NameProp, Num: 1},
		{Name: "count", Kind: api.NameGlobal, Num: 1}, {Name: "drop", Kind: api.NameVerb, Num: 1}, {Name: "half", Kind: api.NameFunc, Num: 1},
		{Name: "hall", Kind: api.NameThing, Num: 3}, {Name: "hidden", Kind: api.NameFlag, Num: 3}, {Name: "lamp", Kind: api.NameThing, Num: 4},
		{Name: "lit", Kind: api.NameFlag, Num: 0}, {Name: "open", Kind: api.NameFlag, Num: 1}, {Name: "red", Kind: api.NameFlag, Num: 5},
		{Name: "size", Kind: api.NameProp, Num: 0}, {Name: "take", Kind: api.NameVerb, Num: 0}, {Name: "time", Kind: api.NameGlobal, Num: 0},
		{Name: "tock", Kind: api.NameDaemon, Num: 0}, {Name: "twice", Kind: api.NameFunc, Num: 0}, {Name: "wet", Kind: api.NameFlag, Num: 4},
		{Name: "yard", Kind: api.NameThing, Num: 2}})
	checkWanted(t, "five of each kind", middling())
}

// TestMakeOrder is 15.1: the names are sorted byte by byte.
func TestMakeOrder(t *testing.T) {
	l := []string{"b", "a", "a_", "a0", "aa", "a00", "a9", "az", "b_", "ba", "b0", "z"}
	checkMade(t, "names that begin alike", api.Source{Flags: l}, []api.Name{
		{Name: "a", Kind: 1, Num: 5}, {Name: "a0", Kind: 1, Num: 7}, {Name: "a00", Kind: 1, Num: 9}, {Name: "a9", Kind: 1, Num: 10}, {Name: "a_", Kind: 1, Num: 6}, {Name: "aa", Kind: 1, Num: 8}, {Name: "az", Kind: 1, Num: 11},
		{Name: "b", Kind: 1, Num: 4}, {Name: "b0", Kind: 1, Num: 14}, {Name: "b_", Kind: 1, Num: 12}, {Name: "ba", Kind: 1, Num: 13}, {Name: "box", Kind: 1, Num: 2}, {Name: "hidden", Kind: 1, Num: 3}, {Name: "lit", Kind: 1}, {Name: "open", Kind: 1, Num: 1}, {Name: "z", Kind: 1, Num: 15}})
	for i, p := range parts() {
		checkWanted(t, p.label+" that begin alike", with(middling(), i, l))
	}
}

// TestMakeGoodNames is 15.1: each name is taken in each part.
func TestMakeGoodNames(t *testing.T) {
	for i, p := range parts() {
		for _, name := range goodNames() {
			checkMade(t, p.label+" with "+name, source(with(lists(), i, []string{name})), ordered(append(predefined(), api.Name{Name: name, Kind: p.kind, Num: p.first})))
			checkWanted(t, p.label+" with "+name+" among others", renamed(middling(), i, 2, name))
		}
	}
}

// TestMakeLimits is 15.1: each part at its limit and beyond it.
func TestMakeLimits(t *testing.T) {
	for i, p := range parts() {
		for _, rest := range [][][]string{lists(), middling(), full()} {
			for count := p.most - 1; count <= p.most+4; count++ {
				l := with(rest, i, lists(count, count, count, count, count, count, count)[i])
				what := fmt.Sprintf("%d %s", count, p.label)
				checkWanted(t, what, l)
				if count > p.most {
					checkFault(t, what, source(l), api.Fault{Err: api.ErrCount, Part: p.number, Num: p.most, Name: nameOf(i, p.most)})
				} else if made, fault := names.Make(source(l)); fault != (api.Fault{}) || made == nil {
					t.Fatal(what, "fault", fault)
				}
			}
		}
	}
}

// TestMakeFull is 15.1 and 15.3: as many names as there can be, with their numbers.
func TestMakeFull(t *testing.T) {
	l := full()
	checkWanted(t, "a full source", l)
	made, _ := names.Make(source(l))
	if len(made) != 4+12+16+64+126+64+64+16 {
		t.Fatal("a full source has", len(made), "names")
	}
	for i, p := range parts() {
		for k, name := range l[i] {
			if n, found := names.Find(made, name); !found || n != (api.Name{Name: name, Kind: p.kind, Num: p.first + k}) {
				t.Fatal("the name", k, "of the", p.label, "is", n)
			}
		}
	}
}

// TestMakeMany is 15.1: a part far beyond its limit.
func TestMakeMany(t *testing.T) {
	for i, p := range parts() {
		l := make([]string, 100000)
		copy(l, full()[i])
		checkFault(t, p.label, source(with(lists(), i, l)), api.Fault{Err: api.ErrCount, Part: p.number, Num: p.most})
		l = make([]string, 100000)
		checkFault(t, p.label, source(with(lists(), i, l)), api.Fault{Err: api.ErrName, Part: p.number})
	}
}

// places is the first, a middle and the last place of a list.
func places(count int) []int { return []int{0, count / 2, count - 1} }

// TestMakeBadNames is 15.1: ErrName at each place of each part.
func TestMakeBadNames(t *testing.T) {
	for i, p := range parts() {
		for _, rest := range [][][]string{middling(), full()} {
			for _, k := range places(len(rest[i])) {
				for _, name := range badNames() {
					checkFault(t, p.label, source(renamed(rest, i, k, name)), api.Fault{Err: api.ErrName, Part: p.number, Num: k, Name: name})
				}
			}
		}
	}
}

// TestMakeBytes is 15.1: each byte as the first one, an inner one and the last one of a name.
func TestMakeBytes(t *testing.T) {
	for i, p := range parts() {
		for c := range 256 {
			for _, name := range []string{string([]byte{byte(c)}), string([]byte{byte(c), 'a'}), string([]byte{'q', byte(c), 'q'}), string([]byte{'q', 'q', byte(c)})} {
				l := with(lists(), i, []string{name})
				checkWanted(t, p.label, l)
				_, fault := names.Make(source(l))
				small, later := 'a' <= c && c <= 'z', '0' <= c && c <= '9' || c == '_'
				right := small || later && name[0] == 'q'
				if right != (fault == api.Fault{}) {
					t.Fatalf("%s with %q: %+v", p.label, name, fault)
				}
			}
		}
	}
}

// TestMakeTwice is 15.1: a name that is there already, in the same part or in one ahead.
func TestMakeTwice(t *testing.T) {
	const count = 5
	for i, p := range parts() {
		for j := range i + 1 {
			for _, from := range places(count) {
				for _, to := range places(count) {
					if j == i && from >= to {
						continue
					}
					l := middling()
					name := l[j][from]
					checkFault(t, p.label, source(renamed(l, i, to, name)), api.Fault{Err: api.ErrTwice, Part: p.number, Num: to, Name: name})
				}
			}
		}
	}
}

// TestMakeTwiceFull is 15.1: the first and the last name of each part once more as the last one of another part.
func TestMakeTwiceFull(t *testing.T) {
	for i, p := range parts() {
		for j := range i {
			l := full()
			for _, name := range []string{l[j][0], l[j][len(l[j])-1]} {
				checkFault(t, p.label, source(renamed(l, i, p.most-1, name)), api.Fault{Err: api.ErrTwice, Part: p.number, Num: p.most - 1, Name: name})
			}
		}
	}
}

// TestMakePredefined is 15.1: a predefined flag is there already, in each part.
func TestMakePredefined(t *testing.T) {
	for i, p := range parts() {
		for _, n := range predefined() {
			for _, rest := range [][][]string{middling(), full()} {
				for _, k := range places(len(rest[i])) {
					checkFault(t, p.label, source(renamed(rest, i, k, n.Name)), api.Fault{Err: api.ErrTwice, Part: p.number, Num: k, Name: n.Name})
				}
			}
		}
	}
}

// TestMakeOneDeclaration is 15.1: ErrCount comes ahead of the other errors of a declaration.
func TestMakeOneDeclaration(t *testing.T) {
	for i, p := range parts() {
		l := full()
		others := append(badNames(), "lit", "open", "box", "hidden", l[i][0], l[i][p.most-1], l[0][0])
		for _, name := range others {
			beyond := with(l, i, append(cloned(l[i]), name, "say", "lit"))
			checkFault(t, p.label, source(beyond), api.Fault{Err: api.ErrCount, Part: p.number, Num: p.most, Name: name})
		}
	}
}

// wrong is a list of names of a part with an error at a place.
func wrong(i int, p part, err api.Errno) ([]string, api.Fault) {
	l := full()[i]
	fault := api.Fault{Err: err, Part: p.number}
	switch err {
	case api.ErrCount:
		l, fault.Num, fault.Name = append(l, "surplus"), p.most, "surplus"
	case api.ErrName:
		l[3], fault.Num, fault.Name = "say", 3, "say"
	case api.ErrTwice:
		l[2], fault.Num, fault.Name = "open", 2, "open"
	}
	return l, fault
}

// TestMakeTwoParts is 15.1: of the faults of two parts the one of the part that comes first is told.
func TestMakeTwoParts(t *testing.T) {
	errors := []api.Errno{api.ErrCount, api.ErrName, api.ErrTwice}
	for j, q := range parts() {
		for i, p := range parts()[:j] {
			for _, first := range errors {
				for _, second := range errors {
					ahead, want := wrong(i, p, first)
					behind, _ := wrong(j, q, second)
					checkFault(t, p.label+" and "+q.label, source(with(with(full(), i, ahead), j, behind)), want)
				}
			}
		}
	}
}

// TestMakeOnePart is 15.1: of the faults of one part the first one is told, whatever their errors are.
func TestMakeOnePart(t *testing.T) {
	for i, p := range parts() {
		l := full()[i]
		l[2], l[5] = "1", l[0]
		checkFault(t, p.label, source(with(lists(), i, append(l, "surplus"))), api.Fault{Err: api.ErrName, Part: p.number, Num: 2, Name: "1"})
		l[2], l[5] = l[0], "1"
		checkFault(t, p.label, source(with(lists(), i, append(l, "surplus"))), api.Fault{Err: api.ErrTwice, Part: p.number, Num: 2, Name: l[0]})
		l[2], l[5] = "say", ""
		checkFault(t, p.label, source(with(lists(), i, l)), api.Fault{Err: api.ErrName, Part: p.number, Num: 2, Name: "say"})
		l[2], l[5] = "lit", "box"
		checkFault(t, p.label, source(with(lists(), i, l)), api.Fault{Err: api.ErrTwice, Part: p.number, Num: 2, Name: "lit"})
	}
}

// TestMakeRules is 15.1: rules declare nothing, so they are not gone through, however many there are.
func TestMakeRules(t *testing.T) {
	s := source(middling())
	want, _ := wanted(middling())
	for _, verb := range append(badNames(), "lit", nameOf(0, 0), nameOf(6, 1), "fresh") {
		s.Rules = []api.Rule{{Verb: verb, Noun: verb, Second: verb}, {Verb: verb, Phase: 9}}
		checkMade(t, "rules for "+verb, s, want)
	}
	s.Rules = make([]api.Rule, 1000)
	checkMade(t, "many rules", s, want)
	s.Daemons = append(s.Daemons, api.Func{Name: "lit"})
	checkFault(t, "a daemon behind many rules", s, api.Fault{Err: api.ErrTwice, Part: 9, Num: 5, Name: "lit"})
}

// filled is s with something in each field that is no name of a declaration: names that are there already, and what is not valid.
func filled(s api.Source, name string) api.Source {
	l := []string{name, name, "fresh", ""}
	expr := api.Expr{Kind: 99, Op: -1, Num: 5, Name: name, Args: []api.Expr{{Kind: 3, Name: name}}}
	body := []api.Stmt{{Kind: 2, Name: name, Args: []api.Expr{expr}}, {Kind: 11, Name: "fresh", Body: []api.Stmt{{Kind: 77, Name: name}}, Else: []api.Stmt{{}}}}
	s.Title, s.By, s.Start, s.Release, s.Max = name, "\xff", name, -1, 1<<40
	for i := range s.Props {
		s.Props[i].Num = 1 << 40
	}
	for i := range s.Globals {
		s.Globals[i].Num = -1 << 40
	}
	for i := range s.Objects {
		o := &s.Objects[i]
		o.Title, o.In, o.Text, o.Room = name, name, "\t", i%2 == 0
		o.Words, o.Adjs, o.Flags = l, l, l
		o.Props = []api.Pair{{Name: name}, {Name: name}, {Name: "fresh"}}
		o.Exits = []api.Exit{{Dir: 99, To: name, Else: name, When: []api.Expr{expr, expr}}}
	}
	for i := range s.Verbs {
		s.Verbs[i].Meta, s.Verbs[i].Lines = true, [][]api.Slot{{{Kind: 9, Words: l}}, {}}
	}
	for i := range s.Funcs {
		s.Funcs[i].Params, s.Funcs[i].Body = l, body
	}
	for i := range s.Daemons {
		s.Daemons[i].Params, s.Daemons[i].Body = l, body
	}
	s.Rules = []api.Rule{{Verb: name, Phase: -1, Noun: name, Second: name, When: []api.Expr{expr}, Body: body}}
	return s
}

// TestMakeOtherFields is 15.1: Make accepts any source; nothing but the names of declarations matters.
func TestMakeOtherFields(t *testing.T) {
	for _, l := range [][][]string{lists(), middling(), full()} {
		want, _ := wanted(l)
		for _, name := range append(badNames(), "lit", "fresh", nameOf(0, 0), nameOf(3, 3), nameOf(6, 1)) {
			checkMade(t, "filled with "+name, filled(source(l), name), want)
		}
	}
	for i, p := range parts() {
		l := renamed(middling(), i, 4, "say")
		checkFault(t, p.label, filled(source(l), "1"), api.Fault{Err: api.ErrName, Part: p.number, Num: 4, Name: "say"})
	}
}

// TestMakeShort compares Make with the chapter for every source of up to three declarations out of a few names.
func TestMakeShort(t *testing.T) {
	l := []string{"a", "b", "open", "player", "A"}
	declare := func(to [][]string, i int, name string) [][]string { return with(to, i, append(cloned(to[i]), name)) }
	var add func(to [][]string, more int)
	add = func(to [][]string, more int) {
		checkWanted(t, strings.Join(to[0], ","), to)
		if more == 0 {
			return
		}
		for i := range parts() {
			for _, name := range l {
				add(declare(to, i, name), more-1)
			}
		}
	}
	add(lists(), 3)
}

// TestMakeUnchanged is R3 and R4: the source is not changed, the names are new memory, and they are the same ones each time.
func TestMakeUnchanged(t *testing.T) {
	for _, l := range [][][]string{lists(), middling(), full(), renamed(full(), 3, 100, "say"), with(full(), 6, append(full()[6], "surplus"))} {
		s := cloned(filled(source(l), "lit"))
		before := cloned(s)
		want, wantFault := wanted(l)
		for range 20 {
			made, fault := names.Make(s)
			if fault != wantFault || !same(made, want) {
				t.Fatal("made another time:", made, fault)
			}
			if !unchanged(reflect.ValueOf(s), reflect.ValueOf(before)) {
				t.Fatal("the source is changed")
			}
			for i := range made[:cap(made)] {
				made[:cap(made)][i] = api.Name{Name: "~"}
			}
		}
	}
}
