package show_test

import (
	"math"
	"strconv"
	"strings"
	"testing"

	"clew/api"
	"clew/lex"
	"clew/show"
)

// spots are fields of a source of which the chapter demands the same, each with what it is.
type spots[T any] struct {
	of     []string
	fields []*T
}

// add adds fields of one kind.
func (l *spots[T]) add(of string, fields ...*T) {
	for i, field := range fields {
		l.of = append(l.of, of+" "+strconv.Itoa(i))
		l.fields = append(l.fields, field)
	}
}

// each is the places of the elements of l.
func each[T any](l []T) []*T {
	var fields []*T
	for i := range l {
		fields = append(fields, &l[i])
	}
	return fields
}

// names is the fields of s that have to be names.
func names(s *api.Source) spots[string] {
	var l spots[string]
	l.add("Start", &s.Start)
	l.add("a flag", each(s.Flags)...)
	for _, p := range append(each(s.Props), each(s.Globals)...) {
		l.add("the name of a prop or a global", &p.Name)
	}
	for _, o := range each(s.Objects) {
		l.add("the name of an object", &o.Name)
		l.add("a flag of an object", each(o.Flags)...)
		for _, p := range each(o.Props) {
			l.add("the name of a prop of an object", &p.Name)
		}
		for _, e := range each(o.Exits) {
			l.add("the To of an exit", &e.To)
		}
	}
	for _, v := range each(s.Verbs) {
		l.add("the name of a verb", &v.Name)
	}
	for _, r := range each(s.Rules) {
		l.add("the Verb of a rule", &r.Verb)
	}
	for _, f := range each(s.Funcs) {
		l.add("the name of a func", &f.Name)
		l.add("a param", each(f.Params)...)
	}
	for _, d := range each(s.Daemons) {
		l.add("the name of a daemon", &d.Name)
	}
	return l
}

// choices is the fields of s that have to be names or empty.
func choices(s *api.Source) spots[string] {
	var l spots[string]
	for _, o := range each(s.Objects) {
		if !o.Room {
			l.add("the In of a thing", &o.In)
		}
	}
	for _, r := range each(s.Rules) {
		l.add("Noun and Second of a rule", &r.Noun, &r.Second)
	}
	return l
}

// texts is the fields of s that have to be texts.
func texts(s *api.Source) spots[string] {
	var l spots[string]
	l.add("Title and By", &s.Title, &s.By)
	for _, o := range each(s.Objects) {
		l.add("Title and Text of an object", &o.Title, &o.Text)
		l.add("a word of an object", each(o.Words)...)
		l.add("an adj of an object", each(o.Adjs)...)
		for _, e := range each(o.Exits) {
			l.add("the Else of an exit", &e.Else)
		}
	}
	for _, v := range each(s.Verbs) {
		for _, line := range v.Lines {
			for _, slot := range each(line) {
				l.add("a word of a slot", each(slot.Words)...)
			}
		}
	}
	return l
}

// counts is the fields of s that have to be numbers from 0 on.
func counts(s *api.Source) spots[int] {
	var l spots[int]
	l.add("Release and Max", &s.Release, &s.Max)
	return l
}

// numbers is the fields of s that have to be any numbers.
func numbers(s *api.Source) spots[int] {
	var l spots[int]
	pairs := append(each(s.Props), each(s.Globals)...)
	for _, o := range each(s.Objects) {
		pairs = append(pairs, each(o.Props)...)
	}
	for _, p := range pairs {
		l.add("the number of "+p.Name, &p.Num)
	}
	return l
}

// directions is the fields of s that have to be directions.
func directions(s *api.Source) spots[int] {
	var l spots[int]
	for _, o := range each(s.Objects) {
		for _, e := range each(o.Exits) {
			l.add("the Dir of an exit", &e.Dir)
		}
	}
	return l
}

// phases is the fields of s that have to be phases.
func phases(s *api.Source) spots[int] {
	var l spots[int]
	for _, r := range each(s.Rules) {
		l.add("the Phase of a rule", &r.Phase)
	}
	return l
}

// conditions is the fields of s that have to be conditions.
func conditions(s *api.Source) spots[[]api.Expr] {
	var l spots[[]api.Expr]
	for _, o := range each(s.Objects) {
		for _, e := range each(o.Exits) {
			l.add("the When of an exit", &e.When)
		}
	}
	for _, r := range each(s.Rules) {
		l.add("the When of a rule", &r.When)
	}
	return l
}

// bodies is the fields of s that have to be blocks.
func bodies(s *api.Source) spots[[]api.Stmt] {
	var l spots[[]api.Stmt]
	for _, r := range each(s.Rules) {
		l.add("the Body of a rule", &r.Body)
	}
	for _, f := range each(s.Funcs) {
		l.add("the Body of a func", &f.Body)
	}
	for _, d := range each(s.Daemons) {
		l.add("the Body of a daemon", &d.Body)
	}
	return l
}

// checkSpots checks a source in which one of at least that many fields is that value, for each of the fields.
func checkSpots[T any](t *testing.T, spotsOf func(s *api.Source) spots[T], least int, value T, want bool) {
	t.Helper()
	base := whole()
	all := spotsOf(&base)
	if len(all.fields) < least {
		t.Fatalf("there are only %d fields", len(all.fields))
	}
	for i, of := range all.of {
		s := whole()
		*spotsOf(&s).fields[i] = value
		if got := show.Right(s); got != want {
			t.Fatalf("%s is %+v: Right = %v", of, value, got)
		}
	}
}

// goodNames is names of all forms.
func goodNames() []string {
	l := []string{"a", "z", "a0", "z9", "a_", "a__9", "roomy", "n_orth", "i", "storys", "words2", "clew", "in_", strings.Repeat("n", mostName-1), strings.Repeat("n", mostName), "z" + strings.Repeat("9", mostName-1)}
	for _, word := range keywords() {
		l = append(l, word+"_")
	}
	return l
}

// badNames is what is neither a name nor empty.
func badNames() []string {
	l := []string{strings.Repeat("n", mostName+1), strings.Repeat("n", 1000), "9", "9a", "_", "_a", "A", "aB", "Room", "a b", " a", "a ", "a-b", "a.b", "a\n", "\n", "\x00", "a\x00", "\"a\"", "a;", "é", "a\x80", "`", "{", "/", ":", "a'", "a/", "a:", "a`", "a{"}
	return append(l, keywords()...)
}

func TestPromise14_3Names(t *testing.T) {
	for _, s := range goodNames() {
		checkSpots(t, names, 34, s, true)
		checkSpots(t, choices, 10, s, true)
	}
	for _, s := range badNames() {
		checkSpots(t, names, 34, s, false)
		checkSpots(t, choices, 10, s, false)
	}
	checkSpots(t, names, 34, "", false)
	checkSpots(t, choices, 10, "", true)
}

// TestPromise14_3NamesAreNotResolved checks that Right asks only for the form of names: they may be there twice, or not be declared.
func TestPromise14_3NamesAreNotResolved(t *testing.T) {
	s := whole()
	for _, l := range []spots[string]{names(&s), choices(&s)} {
		for _, field := range l.fields {
			*field = "same"
		}
	}
	s.Objects[2].In, s.Rules = "", append(s.Rules, s.Rules...)
	checkRight(t, "all names are the same", s, true)
	checkRead(t, s)
	checkRight(t, "the start is not declared", bare(), true)
}

// goodTexts is texts of all forms.
func goodTexts() []string {
	l := []string{"", " ", "a", "A", "\n", "\n\n", "\"", "\\", "\\n", "//", "~", "in", "a, \"b\" \\ c\n", strings.Repeat("x", mostText-1), strings.Repeat("x", mostText), strings.Repeat("\n", mostText), strings.Repeat("\\", mostText), strings.Repeat("\"", mostText)}
	for c := ' '; c <= '~'; c++ {
		l = append(l, "a"+string(c)+"b")
	}
	return l
}

// badTexts is what is no text.
func badTexts() []string {
	l := []string{strings.Repeat("x", mostText+1), strings.Repeat("\n", mostText+1), strings.Repeat("x", 100000), "\xff", "a\x7f", "\x80a", "é", "€"}
	for c := range ' ' {
		if c != '\n' {
			l = append(l, string(c), "a"+string(c)+"b")
		}
	}
	return l
}

func TestPromise14_3Texts(t *testing.T) {
	for _, s := range goodTexts() {
		checkSpots(t, texts, 28, s, true)
	}
	for _, s := range badTexts() {
		checkSpots(t, texts, 28, s, false)
	}
}

// checkBounds checks all numbers around the bounds of fields, and numbers that are equal to some within them modulo powers of 2.
func checkBounds(t *testing.T, spotsOf func(s *api.Source) spots[int], fields, least, most int) {
	t.Helper()
	candidates := []int{0, 1, -1, 7, -7, math.MinInt, math.MaxInt, math.MinInt + 1, mostNumber, -mostNumber, mostNumber + 1, -mostNumber - 1, mostNumber + 2, -mostNumber - 2}
	for _, n := range []int{least, most, 0, 1} {
		candidates = append(candidates, n-2, n-1, n, n+1, n+2, -n, n+1<<8, n-1<<8, n+1<<16, n-1<<16, n+1<<32, n-1<<32)
	}
	for _, n := range candidates {
		checkSpots(t, spotsOf, fields, n, least <= n && n <= most)
	}
	if most-least < 20 {
		for n := least - 20; n <= most+20; n++ {
			checkSpots(t, spotsOf, fields, n, least <= n && n <= most)
		}
	}
}

func TestPromise14_3Numbers(t *testing.T) {
	checkBounds(t, counts, 2, 0, mostNumber)
	checkBounds(t, numbers, 7, -mostNumber, mostNumber)
}

func TestPromise14_3DirectionsAndPhases(t *testing.T) {
	checkBounds(t, directions, 4, 1, 12)
	checkBounds(t, phases, 4, 1, 3)
	for i, word := range strings.Fields(directionList) {
		if dir := lex.Dir(word); dir != i+1 {
			t.Fatalf("%s is direction %d", word, dir)
		}
	}
	for _, n := range []int{api.North, api.South, api.East, api.West, api.Northeast, api.Northwest, api.Southeast, api.Southwest, api.Up, api.Down, api.In, api.Out} {
		checkSpots(t, directions, 4, n, true)
	}
	for _, n := range []int{api.Before, api.On, api.After} {
		checkSpots(t, phases, 4, n, true)
	}
}

// TestPromise14_3ObjectsOfEachKind checks that a room has no In and a thing no Exits, whatever these are.
func TestPromise14_3ObjectsOfEachKind(t *testing.T) {
	for _, in := range []string{"", "hall", "lamp", "a", "9", "in", " "} {
		for exits := range 14 {
			for _, isRoom := range []bool{false, true} {
				for _, place := range []int{0, 1, 2} {
					o := api.Object{Name: "here_", Room: isRoom, In: in, Exits: list(exits, exit)}
					s := bare()
					s.Objects = []api.Object{room(1), room(2), thing(3)}
					s.Objects[place] = o
					named := in == "hall" || in == "lamp" || in == "a"
					want := isRoom && in == "" && exits <= mostExits || !isRoom && (in == "" || named) && exits == 0
					checkRight(t, "Room "+strconv.FormatBool(isRoom)+", In "+in+", exits "+strconv.Itoa(exits), s, want)
				}
			}
		}
	}
	thingWithWrongExit := changed(whole(), func(s *api.Source) { s.Objects[1].Exits = make([]api.Exit, 1) })
	checkRight(t, "a thing with an exit that is none", thingWithWrongExit, false)
}

func TestPromise14_3DaemonsHaveNoParams(t *testing.T) {
	for n := range mostParams + 2 {
		for i := range 2 {
			daemon := changed(whole(), func(s *api.Source) { s.Daemons[i].Params = list(n, name) })
			checkRight(t, "a daemon with params", daemon, n == 0)
			function := changed(whole(), func(s *api.Source) { s.Funcs[i].Params = list(n, name) })
			checkRight(t, "a func with params", function, n <= mostParams)
		}
	}
	checkRight(t, "a daemon with an empty param", changed(whole(), func(s *api.Source) { s.Daemons[0].Params = []string{""} }), false)
}

// TestPromise14_3Slots checks each kind of slot with each number of words, at each place of lines.
func TestPromise14_3Slots(t *testing.T) {
	for _, kind := range []int{-1 << 62, -257, -2, -1, 0, api.SlotWord, api.SlotNoun, api.SlotMany, api.SlotNumber, api.SlotDir, 6, 7, 8, 256, 257, 1 << 32, 1<<32 + 1, 1<<32 + 2} {
		for n := range 10 {
			for place := range 6 {
				s := whole()
				lines := s.Verbs[0].Lines
				all := append(each(lines[0]), append(each(lines[1]), each(lines[2])...)...)
				*all[place] = api.Slot{Kind: kind, Words: list(n, name)}
				want := kind == 1 && 1 <= n && n <= mostChoices || 2 <= kind && kind <= 5 && n == 0
				checkRight(t, "a slot of kind "+strconv.Itoa(kind)+" with "+strconv.Itoa(n)+" words", s, want)
			}
		}
	}
	for kind := 2; kind <= 5; kind++ {
		s := changed(whole(), func(s *api.Source) { s.Verbs[0].Lines[0][1] = api.Slot{Kind: kind, Words: []string{""}} })
		checkRight(t, "a slot with an empty word that has none", s, false)
	}
	s := changed(whole(), func(s *api.Source) { s.Verbs[0].Lines[0][0].Words = []string{""} })
	checkRight(t, "a slot with an empty word", s, true)
}

func TestPromise14_3VerbsWithoutLines(t *testing.T) {
	dir := lineOf(api.Slot{Kind: 5})
	for _, c := range []struct {
		lines [][]api.Slot
		want  bool
	}{
		{nil, false}, {[][]api.Slot{}, false}, {[][]api.Slot{nil}, false}, {[][]api.Slot{{}}, false}, {[][]api.Slot{dir}, true}, {[][]api.Slot{dir, dir}, true},
		{[][]api.Slot{dir, nil}, false}, {[][]api.Slot{nil, dir}, false}, {[][]api.Slot{dir, {}, dir}, false}, {[][]api.Slot{dir, dir, {}}, false},
	} {
		for i := range 2 {
			for _, meta := range []bool{false, true} {
				s := changed(whole(), func(s *api.Source) { s.Verbs[i].Lines, s.Verbs[i].Meta = c.lines, meta })
				checkRight(t, "a verb with "+strconv.Itoa(len(c.lines))+" lines", s, c.want)
			}
		}
	}
}

// goodExprs is valid expressions of each kind that may be conditions.
func goodExprs() []api.Expr {
	a, one := named("a"), number(1)
	l := []api.Expr{a, one, number(0), number(mostNumber), neg(one), not(a), has(a, "lit"), prop(a, "size"), call("f"), call("f", a, one), call("f", list(8, number)...), random(one)}
	for op := 1; op <= 14; op++ {
		l = append(l, bin(a, op, one))
	}
	for op := 1; op <= 3; op++ {
		l = append(l, treeOf(op, a))
	}
	for op := 1; op <= 6; op++ {
		l = append(l, self(op))
	}
	return l
}

// badExprs is expressions that are not valid.
func badExprs() []api.Expr {
	a, one := named("a"), number(1)
	l := []api.Expr{{}, number(-1), number(mostNumber + 1), number(math.MaxInt), named(""), named("in"), named("A"), named(strings.Repeat("n", mostName+1)), {Kind: 1, Name: "a"}, {Kind: 1, Op: 1}, {Kind: 3, Name: "a", Num: 1}, {Kind: 3, Name: "a", Args: when(one)},
		{Kind: 4}, {Kind: 5, Args: when(one, one)}, bin(a, 0, one), bin(a, 15, one), {Kind: 6, Op: 1, Args: when(one)}, has(a, ""), has(a, "room"), prop(a, "9"), call("F"), call("f", list(9, number)...), treeOf(0, a), treeOf(4, a), {Kind: 11}, self(0), self(7), {Kind: 12, Op: 1, Num: 1},
		{Kind: -1}, {Kind: 14}, {Kind: 15}, {Kind: 16, Args: when(one)}, {Kind: 17, Args: when(one)}, {Kind: 18}, {Kind: 19}, {Kind: 20}}
	for _, e := range append(l, text("a"), title(a)) {
		l = append(l, not(e), bin(a, 1, e), call("f", one, e))
	}
	return l
}

// wraps is ways of making an expression one deeper.
func wraps() []func(e api.Expr) api.Expr {
	one := number(1)
	return []func(e api.Expr) api.Expr{
		not, neg, random,
		func(e api.Expr) api.Expr { return bin(e, 10, one) },
		func(e api.Expr) api.Expr { return bin(one, 3, e) },
		func(e api.Expr) api.Expr { return has(e, "lit") },
		func(e api.Expr) api.Expr { return prop(e, "size") },
		func(e api.Expr) api.Expr { return call("f", one, e, one) },
		func(e api.Expr) api.Expr { return treeOf(3, e) },
	}
}

// checkCondition checks a source with one condition, at each place where one can stand.
func checkCondition(t *testing.T, l []api.Expr, want bool) {
	t.Helper()
	checkSpots(t, conditions, 8, l, want)
	for phase := 1; phase <= 3; phase++ {
		s := bare()
		s.Rules = []api.Rule{{Verb: "take", Phase: phase, When: l}}
		checkRight(t, "the When of a rule alone", s, want)
	}
	s := bare()
	s.Objects = []api.Object{{Name: "hall", Room: true, Exits: []api.Exit{{Dir: 1, To: "hall", When: l}}}}
	checkRight(t, "the When of an exit alone", s, want)
}

func TestPromise14_3Conditions(t *testing.T) {
	one, a := number(1), named("a")
	checkCondition(t, nil, true)
	checkCondition(t, when(), true)
	for _, e := range goodExprs() {
		checkCondition(t, when(e), true)
		checkCondition(t, when(e, e), false)
		checkCondition(t, when(e, one), false)
	}
	for _, e := range badExprs() {
		checkCondition(t, when(e), false)
		checkCondition(t, when(one, e), false)
	}
	for _, e := range []api.Expr{text(""), text("a"), text("a\tb"), title(a), title(one), title(text("a")), title(title(a))} {
		checkCondition(t, when(e), false)
		checkCondition(t, when(one, e), false)
		checkCondition(t, when(e, one), false)
	}
	checkCondition(t, when(one, one, one), false)
	checkCondition(t, make([]api.Expr, 1), false)
}

// TestPromise14_3DepthOfConditions checks conditions of each shape that are as deep as may be, and deeper.
func TestPromise14_3DepthOfConditions(t *testing.T) {
	for _, wrap := range wraps() {
		for depth, want := range map[int]bool{1: true, 2: true, 30: true, 31: true, 32: false, 33: false, 34: false, 63: false, 64: false, 65: false, 66: false, 97: false, 200: false} {
			e := chain(depth-1, named("a"), wrap)
			checkCondition(t, when(e), want)
			checkCondition(t, when(e, e), false)
		}
	}
	checkCondition(t, when(title(deepExpr(30))), false)
	checkCondition(t, when(chain(15, deepExpr(16), wraps()[4])), true)
	checkCondition(t, when(chain(15, deepExpr(17), wraps()[4])), false)
}

// checkBody checks a source with one block, at each place where one can stand.
func checkBody(t *testing.T, l []api.Stmt, want bool) {
	t.Helper()
	checkSpots(t, bodies, 8, l, want)
}

// badStmts is statements that are not valid.
func badStmts() []api.Stmt {
	one, stop := number(1), stmt(13, "")
	l := []api.Stmt{{}, {Kind: -1}, {Kind: 23, Name: "a", Args: when(one)}, {Kind: 24}, stmt(1, ""), stmt(1, "", list(9, number)...), stmt(2, "", one), stmt(2, "in", one), stmt(3, "a"), stmt(4, "p", one), stmt(5, "A", one), stmt(7, "", one), stmt(8, "a", one),
		stmt(12, "", text("a")), stmt(12, "", title(one)), stmt(13, "", one), stmt(13, "a"), {Kind: 13, Num: 1}, {Kind: 13, Body: block(stop)}, {Kind: 10, Args: when(one), Else: block(stop)}, stmt(17, "tick"), stmt(18, ""), stmt(19, "", one), stmt(19, "", named("f")), stmt(1, "", number(-1))}
	for _, e := range badExprs() {
		l = append(l, stmt(1, "", e), stmt(16, "", e))
	}
	return l
}

func TestPromise14_3Blocks(t *testing.T) {
	stop := stmt(13, "")
	checkBody(t, nil, true)
	checkBody(t, block(), true)
	checkBody(t, everyStmt(), true)
	for _, s := range everyStmt() {
		checkBody(t, block(s), true)
	}
	for _, s := range badStmts() {
		checkBody(t, block(s), false)
		checkBody(t, block(stop, s), false)
		checkBody(t, block(ifOf(number(1), block(stop), block(s))), false)
	}
	same := func(int) api.Stmt { return stop }
	for n, want := range map[int]bool{mostStmts - 1: true, mostStmts: true, mostStmts + 1: false, 2 * mostStmts: false} {
		checkBody(t, list(n, same), want)
		checkBody(t, block(whileOf(number(1), list(n, same)...)), want)
	}
}

func TestPromise14_3DepthOfBlocks(t *testing.T) {
	for _, depth := range []int{1, 2, 30, 31, 32, 33, 34, 64, 65, 66, 100} {
		want := depth <= mostDepth
		checkBody(t, deepBlock(depth), want)
		checkBody(t, block(stmt(13, ""), deepBlock(depth)[0]), want)
		if depth > 1 {
			checkBody(t, block(stmt(12, "", deepExpr(depth-1))), want)
			checkBody(t, block(ifOf(number(1), nil, deepBlock(depth-1))), want)
		}
	}
}

// TestPromise14_1RightOfAllParts checks that Right accepts sources with all parts, with none, and with the parts of one kind.
func TestPromise14_1RightOfAllParts(t *testing.T) {
	all := whole()
	checkRight(t, "a source with all parts", all, true)
	checkRight(t, "a source without parts", bare(), true)
	checkRight(t, "the zero source", api.Source{}, false)
	checkRight(t, "a source without a title", api.Source{Start: "a"}, true)
	checkRight(t, "a strange source", strange(), false)
	for _, s := range pieces(all) {
		checkRight(t, "a source with one part", s, true)
	}
	for i, s := range pieces(strange()) {
		checkRight(t, "the strange part "+strconv.Itoa(i), s, i == 0)
	}
}

// pieces is, behind a source with nothing but the head of bare, sources with one of the lists of s each.
func pieces(s api.Source) []api.Source {
	l := []api.Source{bare(), bare(), bare(), bare(), bare(), bare(), bare(), bare(), bare()}
	l[1].Flags, l[2].Props, l[3].Globals, l[4].Objects = s.Flags, s.Props, s.Globals, s.Objects
	l[5].Verbs, l[6].Rules, l[7].Funcs, l[8].Daemons = s.Verbs, s.Rules, s.Funcs, s.Daemons
	return l
}
