package show_test

import (
	"strconv"
	"strings"
	"testing"

	"clew/api"
	"clew/decl"
	"clew/show"
)

// listing is a list of a source that can have from least to most elements.
type listing struct {
	what        string
	least, most int
	set         func(s *api.Source, n int)
}

// storyListings is the lists of the story.
func storyListings() []listing {
	return []listing{
		{"flags", 0, mostFlags, func(s *api.Source, n int) { s.Flags = list(n, name) }},
		{"props", 0, mostProps, func(s *api.Source, n int) { s.Props = list(n, pair) }},
		{"globals", 0, mostGlobals, func(s *api.Source, n int) { s.Globals = list(n, pair) }},
		{"rooms", 0, mostObjects, func(s *api.Source, n int) { s.Objects = list(n, room) }},
		{"things", 0, mostObjects, func(s *api.Source, n int) { s.Objects = list(n, thing) }},
		{"rooms and things", 0, mostObjects, func(s *api.Source, n int) { s.Objects = append(list(n/2, room), list(n-n/2, thing)...) }},
		{"verbs", 0, mostVerbs, func(s *api.Source, n int) { s.Verbs = list(n, verb) }},
		{"rules", 0, mostRules, func(s *api.Source, n int) { s.Rules = list(n, rule) }},
		{"rules of one phase", 0, mostRules, func(s *api.Source, n int) {
			s.Rules = list(n, func(int) api.Rule { return api.Rule{Verb: "take", Phase: 2} })
		}},
		{"funcs", 0, mostFuncs, func(s *api.Source, n int) { s.Funcs = list(n, function) }},
		{"daemons", 0, mostDaemons, func(s *api.Source, n int) { s.Daemons = list(n, function) }},
	}
}

// partListings is the lists of parts of whole.
func partListings() []listing {
	l := []listing{{"exits", 0, mostExits, func(s *api.Source, n int) { s.Objects[0].Exits = list(n, exit) }}, {"exits of the last room", 0, mostExits, func(s *api.Source, n int) { s.Objects[2].Exits = list(n, exit) }}}
	for i := range 4 {
		l = append(l,
			listing{"words", 0, mostWords, func(s *api.Source, n int) { s.Objects[i].Words = list(n, name) }},
			listing{"adjs", 0, mostWords, func(s *api.Source, n int) { s.Objects[i].Adjs = list(n, name) }},
			listing{"empty words", 0, mostWords, func(s *api.Source, n int) { s.Objects[i].Words = make([]string, n) }},
			listing{"flags of an object", 0, mostFlags, func(s *api.Source, n int) { s.Objects[i].Flags = list(n, name) }},
			listing{"props of an object", 0, mostProps, func(s *api.Source, n int) { s.Objects[i].Props = list(n, pair) }})
	}
	for i := range 2 {
		l = append(l,
			listing{"lines", 1, mostLines, func(s *api.Source, n int) { s.Verbs[i].Lines = list(n, line) }},
			listing{"slots of the first line", 1, mostSlots, func(s *api.Source, n int) { s.Verbs[i].Lines[0] = list(n, slot) }},
			listing{"slots of the last line", 1, mostSlots, func(s *api.Source, n int) { s.Verbs[0].Lines[2-i] = list(n, slot) }},
			listing{"words of a slot", 1, mostChoices, func(s *api.Source, n int) { s.Verbs[i].Lines[0][0].Words = list(n, name) }},
			listing{"words of the second slot", 1, mostChoices, func(s *api.Source, n int) { s.Verbs[0].Lines[1][i].Words = list(n, name) }},
			listing{"params", 0, mostParams, func(s *api.Source, n int) { s.Funcs[i].Params = list(n, name) }})
	}
	return l
}

// full is a source with as many parts of each kind as there can be, and no more than size texts and names in each of its parts.
func full(size int) api.Source {
	s := bare()
	for _, l := range storyListings() {
		l.set(&s, l.most)
	}
	few := func(n int) int { return min(n, size) }
	for i, o := range each(s.Objects) {
		o.Room, o.Words, o.Adjs = i%2 == 0, list(few(mostWords), name), list(few(mostWords), name)
		o.Flags, o.Props = list(few(mostFlags), name), list(few(mostProps), pair)
		if o.Room {
			o.Exits = list(few(mostExits), exit)
		}
	}
	for _, v := range each(s.Verbs) {
		v.Lines = list(few(mostLines), func(i int) []api.Slot {
			return append(list(few(mostSlots)-1, slot), words(list(few(mostChoices), name)...))
		})
	}
	for _, f := range each(s.Funcs) {
		f.Params = list(few(mostParams), name)
	}
	return s
}

// TestPromise14_3Limits checks each list by itself at its limits and around them.
func TestPromise14_3Limits(t *testing.T) {
	for _, l := range append(storyListings(), partListings()...) {
		for _, n := range []int{0, 1, 2, l.most - 1, l.most, l.most + 1, l.most + 2, 2 * l.most, l.most + 256, 65536 + l.most} {
			s := whole()
			l.set(&s, n)
			checkRight(t, strconv.Itoa(n)+" "+l.what, s, l.least <= n && n <= l.most)
		}
	}
	for _, l := range storyListings() {
		for _, n := range []int{0, 1, l.most, l.most + 1} {
			s := bare()
			l.set(&s, n)
			checkRight(t, strconv.Itoa(n)+" "+l.what+" and nothing else", s, n <= l.most)
		}
	}
}

// TestPromise14_3LimitsAreCountedApart checks a source in which all lists are full, and such a one with one element more.
func TestPromise14_3LimitsAreCountedApart(t *testing.T) {
	checkRight(t, "a full source", full(100), true)
	for _, l := range storyListings() {
		s := full(100)
		l.set(&s, l.most+1)
		checkRight(t, "a full source with more "+l.what, s, false)
	}
	for _, last := range []bool{false, true} {
		place := func(n int) int {
			if last {
				return n - 1
			}
			return 0
		}
		for what, add := range map[string]func(s *api.Source){
			"words": func(s *api.Source) { o := &s.Objects[place(mostObjects)]; o.Words = append(o.Words, "a") },
			"adjs":  func(s *api.Source) { o := &s.Objects[place(mostObjects)]; o.Adjs = append(o.Adjs, "a") },
			"flags": func(s *api.Source) { o := &s.Objects[place(mostObjects)]; o.Flags = append(o.Flags, "a") },
			"props": func(s *api.Source) { o := &s.Objects[place(mostObjects)]; o.Props = append(o.Props, pair(1)) },
			"exits": func(s *api.Source) { o := &s.Objects[place(mostObjects-1)]; o.Exits = append(o.Exits, exit(1)) },
			"lines": func(s *api.Source) { v := &s.Verbs[place(mostVerbs)]; v.Lines = append(v.Lines, line(1)) },
			"slots": func(s *api.Source) {
				l := s.Verbs[place(mostVerbs)].Lines
				l[place(mostLines)] = append(l[place(mostLines)], slot(1))
			},
			"choices": func(s *api.Source) {
				slot := &s.Verbs[place(mostVerbs)].Lines[place(mostLines)][mostSlots-1]
				slot.Words = append(slot.Words, "a")
			},
			"params": func(s *api.Source) { f := &s.Funcs[place(mostFuncs)]; f.Params = append(f.Params, "a") },
		} {
			s := full(100)
			add(&s)
			checkRight(t, "a full source with more "+what, s, false)
		}
	}
}

// TestPromise14_2FullLists checks that sources with full lists are read again.
func TestPromise14_2FullLists(t *testing.T) {
	for _, l := range append(storyListings(), partListings()...) {
		for _, n := range []int{l.least, l.least + 1, l.most - 1, l.most} {
			s := whole()
			l.set(&s, n)
			checkRead(t, s)
			for _, piece := range pieces(s) {
				checkRead(t, piece)
			}
		}
	}
	for size := 1; size <= 3; size++ {
		checkRead(t, full(size))
	}
	for _, s := range pieces(full(100)) {
		s.Objects = s.Objects[:min(len(s.Objects), 40)] // more of them have too many tokens
		checkRead(t, s)
	}
}

// TestPromise14_2FullBlocks checks that sources with blocks of as many statements as there can be are read again.
func TestPromise14_2FullBlocks(t *testing.T) {
	for _, n := range []int{0, 1, mostStmts - 1, mostStmts} {
		l := list(n, func(i int) api.Stmt { return stmt(13+i%3, "") })
		base := whole()
		for i := range bodies(&base).fields {
			s := whole()
			*bodies(&s).fields[i] = l
			checkRead(t, s)
			*bodies(&s).fields[i] = block(whileOf(number(1), l...), ifOf(number(1), l, l))
			checkRead(t, s)
		}
	}
}

// TestPromise14_2DeepParts checks that expressions and blocks as deep as may be are read again, at each place.
func TestPromise14_2DeepParts(t *testing.T) {
	base := whole()
	for _, wrap := range wraps() {
		e := chain(mostWhen-1, named("a"), wrap)
		for i := range conditions(&base).fields {
			s := whole()
			*conditions(&s).fields[i] = when(e)
			checkRead(t, s)
		}
		for i := range bodies(&base).fields {
			s := whole()
			*bodies(&s).fields[i] = block(stmt(1, "", e, text("a")), whileOf(chain(mostWhen-2, named("a"), wrap), stmt(13, "")))
			checkRead(t, s)
			*bodies(&s).fields[i] = deepBlock(mostDepth)
			checkRead(t, s)
			*bodies(&s).fields[i] = chain(mostDepth/2, block(stmt(12, "", chain(mostDepth/2-2, named("a"), wrap))), func(l []api.Stmt) []api.Stmt {
				return block(ifOf(number(1), l, block(ifOf(number(0), nil, nil))))
			})
			checkRead(t, s)
		}
	}
	mixed := named("a")
	for i := range mostWhen - 1 {
		mixed = []func(e api.Expr) api.Expr{neg, not, func(e api.Expr) api.Expr { return bin(number(1), 12, e) }}[i%3](mixed)
	}
	s := whole()
	for _, field := range conditions(&s).fields {
		*field = when(mixed)
	}
	checkRead(t, s)
}

// sized is a valid source whose text has that many bytes.
func sized(t *testing.T, bytes int) api.Source {
	t.Helper()
	s := bare()
	s.Objects = list(100, func(i int) api.Object { return api.Object{Name: name(i), Text: "x"} })
	missing := bytes - len(show.Source(s))
	for _, o := range each(s.Objects) {
		more := min(missing, mostText-1)
		o.Text += strings.Repeat("x", more)
		missing -= more
	}
	if n := len(show.Source(s)); n != bytes {
		t.Fatalf("the text has %d bytes, not %d", n, bytes)
	}
	return s
}

// TestPromise14_2LongTexts checks sources whose texts have as many bytes and tokens as can be read, and more.
func TestPromise14_2LongTexts(t *testing.T) {
	for _, bytes := range []int{mostSource - 1, mostSource} {
		checkRead(t, sized(t, bytes))
	}
	long := sized(t, mostSource+1)
	checkRight(t, "a source with a long text", long, true)
	if _, fail := decl.Read(show.Source(long)); fail != (api.Fail{Err: api.ErrLong, Line: 1, Col: 1}) {
		t.Fatalf("a text of %d bytes is read with %+v", mostSource+1, fail)
	}
	stop := func(int) api.Stmt { return stmt(13, "") }
	many := bare() // its head has 11 tokens
	many.Props = list(1, pair)
	many.Rules = list(31, func(int) api.Rule { return api.Rule{Verb: "a", Phase: 2, Body: list(mostStmts, stop)} })
	many.Rules = append(many.Rules, api.Rule{Verb: "a", Phase: 2, Body: list((mostTokens-11-5-31*(4+2*mostStmts)-4)/2, stop)})
	checkRead(t, many)
	many.Flags = list(1, name)
	checkRight(t, "a source with many tokens", many, true)
	if _, fail := decl.Read(show.Source(many)); fail.Err != api.ErrCount {
		t.Fatalf("a text with more than %d tokens is read with %+v", mostTokens, fail)
	}
}

// TestPromise14_4LargestSource checks the text of a source that is too large to be read.
func TestPromise14_4LargestSource(t *testing.T) {
	s := full(100)
	for _, o := range each(s.Objects) {
		o.Words = list(mostWords, func(int) string { return strings.Repeat("\n", mostText) })
	}
	for _, f := range append(each(s.Funcs), each(s.Daemons)...) {
		f.Body = list(mostStmts, func(int) api.Stmt { return everyStmt()[8] })
	}
	checkRight(t, "the largest source", s, true)
	if got, want := show.Source(s), definedSource(s); got != want {
		t.Fatalf("the text of a large source has %d bytes, not %d", len(got), len(want))
	}
}
