package decl_test

import (
	"reflect"
	"slices"
	"strconv"
	"strings"
	"testing"

	"clew/api"
	"clew/decl"
	"clew/lex"
)

// head is the beginning of a source; headOf is the source that has nothing else.
const head = `story "T" by "A" release 1 max 5 start hall; `

func headOf() api.Source {
	return api.Source{Title: "T", By: "A", Start: "hall", Release: 1, Max: 5}
}

func number(n int) api.Expr   { return api.Expr{Kind: 1, Num: n} }
func named(s string) api.Expr { return api.Expr{Kind: 3, Name: s} }
func not(e api.Expr) api.Expr { return api.Expr{Kind: 5, Args: []api.Expr{e}} }
func self(op int) api.Expr    { return api.Expr{Kind: 12, Op: op} }
func bin(a api.Expr, op int, b api.Expr) api.Expr {
	return api.Expr{Kind: 6, Op: op, Args: []api.Expr{a, b}}
}
func has(e api.Expr, flag string) api.Expr {
	return api.Expr{Kind: 7, Name: flag, Args: []api.Expr{e}}
}

// if1 is a condition.
func if1(e api.Expr) []api.Expr { return []api.Expr{e} }

// block is a list of statements without names and Args.
func block(kinds ...int) []api.Stmt {
	var l []api.Stmt
	for _, kind := range kinds {
		l = append(l, api.Stmt{Kind: kind})
	}
	return l
}

// deep is the text of an expression of that depth.
func deep(depth int) string {
	return "a" + strings.Repeat(".x", depth-1)
}

// deepExpr is the expression with the text deep.
func deepExpr(depth int) api.Expr {
	e := named("a")
	for range depth - 1 {
		e = api.Expr{Kind: 8, Name: "x", Args: []api.Expr{e}}
	}
	return e
}

// many is a text for each number from 0 on, joined.
func many(n int, separator string, text func(i int) string) string {
	var l []string
	for i := range n {
		l = append(l, text(i))
	}
	return strings.Join(l, separator)
}

// name is names that differ, and quoted is texts that do.
func name(i int) string   { return "n" + strconv.Itoa(i) }
func quoted(i int) string { return lex.Quote(name(i)) }

// tokens is the tokens of s without the TokEnd.
func tokens(s string) []api.Tok {
	l := ended(s)
	return l[:len(l)-1]
}

// ended is the tokens of s with the TokEnd.
func ended(s string) []api.Tok {
	l, fail := lex.All(s)
	if fail != (api.Fail{}) {
		panic(s)
	}
	return l
}

// placed is the tokens with positions that differ from one another.
func placed(l []api.Tok) []api.Tok {
	l = slices.Clone(l)
	for i := range l {
		l[i].Line, l[i].Col = 7+i/3, 20+5*i
	}
	return l
}

// shown is the last tokens for a message.
func shown(l []api.Tok) string {
	s := lex.Print(l)
	return s[max(len(s)-400, 0):] + " (" + strconv.Itoa(len(l)) + " tokens)"
}

// same reports whether all fields are equal; nil and empty lists are.
func same(a, b api.Source) bool {
	return equal(reflect.ValueOf(a), reflect.ValueOf(b))
}

func equal(a, b reflect.Value) bool {
	switch a.Kind() {
	case reflect.Struct:
		for i := range a.NumField() {
			if !equal(a.Field(i), b.Field(i)) {
				return false
			}
		}
		return true
	case reflect.Slice:
		if a.Len() != b.Len() {
			return false
		}
		for i := range a.Len() {
			if !equal(a.Index(i), b.Index(i)) {
				return false
			}
		}
		return true
	}
	return a.Interface() == b.Interface()
}

// check checks what Parse returns for l.
func check(t *testing.T, l []api.Tok, want api.Source, wantFail api.Fail) {
	t.Helper()
	got, fail := decl.Parse(l)
	if !same(got, want) || fail != wantFail {
		t.Fatalf("%s\ngives %+v, %+v\nwant %+v, %+v", shown(l), got, fail, want, wantFail)
	}
}

// checkSource checks that src is the source want.
func checkSource(t *testing.T, src string, want api.Source) {
	t.Helper()
	check(t, ended(src), want, api.Fail{})
	check(t, tokens(src), want, api.Fail{})
	if got, fail := decl.Read(src); !same(got, want) || fail != (api.Fail{}) {
		t.Fatalf("%s\nis read as %+v, %+v\nwant %+v", src, got, fail, want)
	}
}

// checkDecls checks the declarations of want, which are written as src.
func checkDecls(t *testing.T, src string, want api.Source) {
	t.Helper()
	checkSource(t, head+src, with(headOf(), want))
}

// checkItems checks what a room and a thing have, which is written as src; only the lists and the text of want matter.
func checkItems(t *testing.T, src string, want api.Object) {
	t.Helper()
	want.Name, want.Title = "a", "b"
	checkDecls(t, `thing a "b" { `+src+" }", api.Source{Objects: []api.Object{want}})
	within := want
	within.In = "c"
	checkDecls(t, `thing a "b" in c { `+src+" }", api.Source{Objects: []api.Object{within}})
	want.Room = true
	checkDecls(t, `room a "b" { `+src+" }", api.Source{Objects: []api.Object{want}})
}

// with is a source to which the declarations of more are added.
func with(s, more api.Source) api.Source {
	s.Flags = slices.Concat(s.Flags, more.Flags)
	s.Props = slices.Concat(s.Props, more.Props)
	s.Globals = slices.Concat(s.Globals, more.Globals)
	s.Objects = slices.Concat(s.Objects, more.Objects)
	s.Verbs = slices.Concat(s.Verbs, more.Verbs)
	s.Rules = slices.Concat(s.Rules, more.Rules)
	s.Funcs = slices.Concat(s.Funcs, more.Funcs)
	s.Daemons = slices.Concat(s.Daemons, more.Daemons)
	return s
}

// followers is what can stand behind a token that fails, in other sources.
func followers() []string {
	return []string{"", ";", "}", "{", ")", "a", "b = 1;", "1", `"t"`, "text", "if", ", a", "= 1 ;", "; } " + head, `flag b; room b "B" { }`, "= ( (", "is lit; words \"x\"; }"}
}

// checkPasses checks that the declarations src are read, and returns the source.
func checkPasses(t *testing.T, src string) api.Source {
	t.Helper()
	got, fail := decl.Read(head + src)
	if fail != (api.Fail{}) || got.Title != "T" {
		t.Fatalf("%s\ngives %+v", shown(tokens(head+src)), fail)
	}
	return got
}

// checkFails checks that the text src fails at the token behind the mark @, with what stands behind it and with anything else.
func checkFails(t *testing.T, err api.Errno, src string) {
	t.Helper()
	ahead, behind, ok := strings.Cut(src, "@")
	if !ok {
		t.Fatalf("%s has no mark", src)
	}
	l, place := ended(ahead+behind), len(tokens(ahead))
	want := api.Fail{Err: err, Line: l[place].Line, Col: l[place].Col}
	check(t, l, api.Source{}, want)
	if got, fail := decl.Read(ahead + behind); !same(got, api.Source{}) || fail != want {
		t.Fatalf("%s\nis read as %+v, %+v", ahead+behind, got, fail)
	}
	without := l[:len(l)-1]
	switch err {
	case api.ErrShort:
		check(t, without, api.Source{}, api.Fail{Err: err})
	case api.ErrDepth:
		check(t, without, api.Source{}, want)
	default:
		for _, follower := range followers() {
			check(t, slices.Concat(l[:place+1], ended(follower)), api.Source{}, want)
		}
		check(t, l[:place+1], api.Source{}, want)
	}
}

// checkFail checks the failure of the declarations src.
func checkFail(t *testing.T, err api.Errno, src string) {
	t.Helper()
	checkFails(t, err, head+src)
	checkFails(t, err, head+`flag a; room b "B" { is c; } `+src)
}

// checkItemFails checks the failure of src, with which the items of an object end.
func checkItemFails(t *testing.T, err api.Errno, src string) {
	t.Helper()
	for _, object := range []string{`thing a "b" { `, `thing a "b" in c { `, `room a "b" { `, `room d "e" { text "f"; } room a "b" { `} {
		checkFails(t, err, head+object+src)
	}
}

// sample is the text of declarations, and a source that has them only.
type sample struct {
	src  string
	want api.Source
}

// samples is declarations of each kind with all that they can hold.
func samples() []sample {
	return slices.Concat(settingSamples(), objectSamples(), verbSamples(), ruleSamples(), routineSamples())
}

func settingSamples() []sample {
	return []sample{
		{`flag a;`, api.Source{Flags: []string{"a"}}},
		{`flag a, b_2, a, c;`, api.Source{Flags: []string{"a", "b_2", "a", "c"}}},
		{`prop p = 4;`, api.Source{Props: []api.Pair{{Name: "p", Num: 4}}}},
		{`prop p = -32767;`, api.Source{Props: []api.Pair{{Name: "p", Num: -32767}}}},
		{`global g = 32767;`, api.Source{Globals: []api.Pair{{Name: "g", Num: 32767}}}},
		{`global g = -0;`, api.Source{Globals: []api.Pair{{Name: "g"}}}},
	}
}

// objectSamples is rooms and things, each with every kind of item.
func objectSamples() []sample {
	src := `words "w", "v"; text "x\ny"; adjs "j"; is lit, open; p = 3; exit north to hall; is box; q = -7; p = 0; words "w"; adjs "k", "";
		exit in to yard if lamp in here else "No."; exit out to hall else ""; exit down to yard if not a; }`
	items := api.Object{
		Text: "x\ny", Words: []string{"w", "v", "w"}, Adjs: []string{"j", "k", ""}, Flags: []string{"lit", "open", "box"},
		Props: []api.Pair{{Name: "p", Num: 3}, {Name: "q", Num: -7}, {Name: "p"}},
		Exits: []api.Exit{
			{Dir: 1, To: "hall"}, {Dir: 11, To: "yard", Else: "No.", When: if1(bin(named("lamp"), 9, self(1)))},
			{Dir: 12, To: "hall"}, {Dir: 10, To: "yard", When: if1(not(named("a")))},
		},
	}
	object := func(name, title, in string, room bool) api.Source {
		o := items
		o.Name, o.Title, o.In, o.Room = name, title, in, room
		return api.Source{Objects: []api.Object{o}}
	}
	return []sample{
		{`room hall "Hall" { }`, api.Source{Objects: []api.Object{{Name: "hall", Title: "Hall", Room: true}}}},
		{`thing lamp "" { }`, api.Source{Objects: []api.Object{{Name: "lamp"}}}},
		{`thing lamp "brass lamp" in hall { text ""; }`, api.Source{Objects: []api.Object{{Name: "lamp", Title: "brass lamp", In: "hall"}}}},
		{`room yard "Yard" { ` + src, object("yard", "Yard", "", true)},
		{`thing box_1 "Box" { ` + src, object("box_1", "Box", "", false)},
		{`thing coin "Coin" in box_1 { ` + src, object("coin", "Coin", "box_1", false)},
	}
}

func verbSamples() []sample {
	words := func(l ...string) api.Slot { return api.Slot{Kind: 1, Words: l} }
	noun, more, num, dir := api.Slot{Kind: 2}, api.Slot{Kind: 3}, api.Slot{Kind: 4}, api.Slot{Kind: 5}
	verb := func(name string, meta bool, lines ...[]api.Slot) api.Source {
		return api.Source{Verbs: []api.Verb{{Name: name, Meta: meta, Lines: lines}}}
	}
	return []sample{
		{`verb go = dir;`, verb("go", false, []api.Slot{dir})},
		{`verb take meta = "take" / "get" noun | dir;`, verb("take", true, []api.Slot{words("take", "get"), noun}, []api.Slot{dir})},
		{`verb put = "put" many "in" / "into" / "" noun | "put" "down" noun | number "x" number;`,
			verb("put", false, []api.Slot{words("put"), more, words("in", "into", ""), noun}, []api.Slot{words("put"), words("down"), noun}, []api.Slot{num, words("x"), num})},
		{`verb any_1 = noun | noun noun | many | number;`, verb("any_1", false, []api.Slot{noun}, []api.Slot{noun, noun}, []api.Slot{more}, []api.Slot{num})},
	}
}

func ruleSamples() []sample {
	rule := func(r api.Rule) api.Source { return api.Source{Rules: []api.Rule{r}} }
	return []sample{
		{`before go { }`, rule(api.Rule{Verb: "go", Phase: 1})},
		{`on take (lamp) { stop; }`, rule(api.Rule{Verb: "take", Phase: 2, Noun: "lamp", Body: block(13)})},
		{`after take (any) { win; look; }`, rule(api.Rule{Verb: "take", Phase: 3, Body: block(14, 21)})},
		{`on put (lamp, box) { }`, rule(api.Rule{Verb: "put", Phase: 2, Noun: "lamp", Second: "box"})},
		{`before put (any, box) { }`, rule(api.Rule{Verb: "put", Phase: 1, Second: "box"})},
		{`after put (lamp, any) { }`, rule(api.Rule{Verb: "put", Phase: 3, Noun: "lamp"})},
		{`before put (any, any) { lose; }`, rule(api.Rule{Verb: "put", Phase: 1, Body: block(15)})},
		{`on go if 1 { }`, rule(api.Rule{Verb: "go", Phase: 2, When: if1(number(1))})},
		{`after take (lamp) if lamp has lit and not a { stop; }`, rule(api.Rule{Verb: "take", Phase: 3, Noun: "lamp", When: if1(bin(has(named("lamp"), "lit"), 2, not(named("a")))), Body: block(13)})},
		{`on put (any, box) if (noun) { }`, rule(api.Rule{Verb: "put", Phase: 2, Second: "box", When: if1(self(3))})},
	}
}

func routineSamples() []sample {
	returned := []api.Stmt{{Kind: 12, Args: []api.Expr{bin(named("a"), 10, number(1))}}}
	given := []api.Stmt{{Kind: 9, Args: []api.Expr{named("a")}, Body: block(14), Else: block(15, 13)}}
	return []sample{
		{`func f() { }`, api.Source{Funcs: []api.Func{{Name: "f"}}}},
		{`func g(a) { return a + 1; }`, api.Source{Funcs: []api.Func{{Name: "g", Params: []string{"a"}, Body: returned}}}},
		{`func h(a, b, a) { if a { win; } else { lose; stop; } }`, api.Source{Funcs: []api.Func{{Name: "h", Params: []string{"a", "b", "a"}, Body: given}}}},
		{`daemon d { }`, api.Source{Daemons: []api.Func{{Name: "d"}}}},
		{`daemon e { look; return a + 1; }`, api.Source{Daemons: []api.Func{{Name: "e", Body: slices.Concat(block(21), returned)}}}},
	}
}

// wholeSource is the text of all samples, and the source that it is.
func wholeSource() (string, api.Source) {
	src, want := head, headOf()
	for _, c := range samples() {
		src += "\n" + c.src
		want = with(want, c.want)
	}
	return src, want
}

// alphabet is all kinds of tokens with which something begins or goes on in sources, and a few others.
func alphabet() []api.Tok {
	return append(tokens(`a 5 "t" story by release max start flag prop global room thing in verb meta on before after if func daemon text words adjs is exit to else
		say stop set noun many number dir any north out here parent not or has - = == + * . , ; ( ) { } | / <`), api.Tok{})
}

func TestPromise13_1Examples(t *testing.T) {
	first := "story \"T\" by \"A\" release 1 max 5 start hall;\n"
	checkSource(t, first+"room hall \"Hall\" { is lit; }\n", with(headOf(), api.Source{Objects: []api.Object{{Name: "hall", Title: "Hall", Room: true, Flags: []string{"lit"}}}}))
	want := api.Fail{Err: api.ErrTwice, Line: 2, Col: 30}
	check(t, ended(first+`room hall "Hall" { text "a"; text "b"; }`), api.Source{}, want)
	check(t, nil, api.Source{}, api.Fail{Err: api.ErrShort})
}

func TestPromise13_1Head(t *testing.T) {
	checkSource(t, head, headOf())
	long := strings.Repeat("x", 1024)
	checkSource(t, `story "`+long+`" by "a\n\"\\" release 32767 max 0 start a_very_long_name_of_24_c;`,
		api.Source{Title: long, By: "a\n\"\\", Release: 32767, Start: "a_very_long_name_of_24_c"})
	checkSource(t, `story "" by "" release 0 max 32767 start x;`, api.Source{Max: 32767, Start: "x"})
	for _, src := range []string{
		`@flag a;`, `@by "T"`, `@"T"`, `@;`, `@5`, `@name`, `@room a "b" { }`,
		`story @t`, `story @5`, `story @by "A"`, `story @;`, `story @story`,
		`story "T" @"A"`, `story "T" @release 1`, `story "T" @;`, `story "T" @by_x`, `story "T" @, by`,
		`story "T" by @a`, `story "T" by @release`, `story "T" by @5`, `story "T" by "A" @max 5`, `story "T" by "A" @5`, `story "T" by "A" @;`, `story "T" by "A" @start`,
		`story "T" by "A" release @max`, `story "T" by "A" release @"1"`, `story "T" by "A" release @-1`, `story "T" by "A" release @one`, `story "T" by "A" release @;`, `story "T" by "A" release @(1)`,
		`story "T" by "A" release 1 @5`, `story "T" by "A" release 1 @start`, `story "T" by "A" release 1 @;`, `story "T" by "A" release 1 @+ 1`, `story "T" by "A" release 1 @. 2`,
		`story "T" by "A" release 1 max @start`, `story "T" by "A" release 1 max @-5`, `story "T" by "A" release 1 max @"5"`, `story "T" by "A" release 1 max @five`,
		`story "T" by "A" release 1 max 5 @hall`, `story "T" by "A" release 1 max 5 @;`, `story "T" by "A" release 1 max 5 @6`,
		`story "T" by "A" release 1 max 5 start @;`, `story "T" by "A" release 1 max 5 start @"hall"`, `story "T" by "A" release 1 max 5 start @here`, `story "T" by "A" release 1 max 5 start @5`, `story "T" by "A" release 1 max 5 start @in`,
		`story "T" by "A" release 1 max 5 start hall @flag`, `story "T" by "A" release 1 max 5 start hall @hall;`, `story "T" by "A" release 1 max 5 start hall @, b;`, `story "T" by "A" release 1 max 5 start hall @{`,
	} {
		checkFails(t, api.ErrToken, src)
	}
}

// TestPromise13_1EachDeclaration checks declarations alone, twice, and all of them in several orders.
func TestPromise13_1EachDeclaration(t *testing.T) {
	all := samples()
	for _, c := range all {
		checkDecls(t, c.src, c.want)
		checkDecls(t, c.src+c.src, with(c.want, c.want))
	}
	src, want := wholeSource()
	checkSource(t, src, want)
	for i := range all {
		src, want := "", api.Source{}
		for j := range all {
			c := all[(i+j*5)%len(all)]
			src, want = src+c.src, with(want, c.want)
		}
		checkDecls(t, src, want)
	}
	for _, a := range all {
		for _, b := range all {
			checkDecls(t, a.src+b.src, with(a.want, b.want))
		}
	}
}

// TestPromise13_1Items checks items of one kind that stand in several places, with others between them.
func TestPromise13_1Items(t *testing.T) {
	for _, c := range []struct {
		src  string
		want api.Object
	}{
		{`text "x";`, api.Object{Text: "x"}},
		{`text "";`, api.Object{}},
		{`words "x";`, api.Object{Words: []string{"x"}}},
		{`words "x", "y"; words "x"; words "", "z";`, api.Object{Words: []string{"x", "y", "x", "", "z"}}},
		{`adjs "x";`, api.Object{Adjs: []string{"x"}}},
		{`adjs "x", "y"; is a; adjs "x"; words "b"; adjs "", "z";`, api.Object{Adjs: []string{"x", "y", "x", "", "z"}, Flags: []string{"a"}, Words: []string{"b"}}},
		{`is a;`, api.Object{Flags: []string{"a"}}},
		{`is c, b; text "t"; is c; a = 2; is a;`, api.Object{Flags: []string{"c", "b", "c", "a"}, Text: "t", Props: []api.Pair{{Name: "a", Num: 2}}}},
		{`p = 5;`, api.Object{Props: []api.Pair{{Name: "p", Num: 5}}}},
		{`p = 5; is a; p = -6; o = 0; words "w"; p = - 32767;`, api.Object{Props: []api.Pair{{Name: "p", Num: 5}, {Name: "p", Num: -6}, {Name: "o"}, {Name: "p", Num: -32767}}, Flags: []string{"a"}, Words: []string{"w"}}},
		{`exit up to a; exit up to a; words "w"; exit east to b;`, api.Object{Exits: []api.Exit{{Dir: 9, To: "a"}, {Dir: 9, To: "a"}, {Dir: 3, To: "b"}}, Words: []string{"w"}}},
	} {
		checkItems(t, c.src, c.want)
	}
}

func TestPromise13_1Directions(t *testing.T) {
	for i, dir := range strings.Fields(directionList) {
		want := api.Exit{Dir: i + 1, To: "c"}
		checkItems(t, "exit "+dir+" to c;", api.Object{Exits: []api.Exit{want}})
		want.When, want.Else = if1(bin(named("c"), 9, named("d"))), "e"
		checkItems(t, "exit "+dir+` to c if c in d else "e";`, api.Object{Exits: []api.Exit{want}})
		checkItemFails(t, api.ErrToken, "exit "+dir+" @"+dir)
		checkItemFails(t, api.ErrToken, "exit "+dir+" to @"+dir)
		checkItemFails(t, api.ErrToken, `exit @"`+dir+`" to c;`)
	}
	for _, wrong := range strings.Fields(`to norths inn dir here story noun exit if ; , - 5 } "in" no`) {
		checkItemFails(t, api.ErrToken, "exit @"+wrong+" to c;")
	}
	for _, text := range strings.Fields(directionList) {
		l := tokens(head + `room a "b" { exit north to c; }`)
		l[len(l)-5] = api.Tok{Kind: 3, Text: text, Line: 4, Col: 9}
		check(t, l, api.Source{}, api.Fail{Err: api.ErrToken, Line: 4, Col: 9})
	}
}

func TestPromise13_1Exits(t *testing.T) {
	one, a := number(1), named("a")
	for src, want := range map[string]api.Exit{
		`exit in to in_1;`:                             {Dir: 11, To: "in_1"},
		`exit in to c if 1;`:                           {Dir: 11, To: "c", When: if1(one)},
		`exit in to c else "t";`:                       {Dir: 11, To: "c", Else: "t"},
		`exit in to c else "";`:                        {Dir: 11, To: "c"},
		`exit in to c if 1 else "t";`:                  {Dir: 11, To: "c", When: if1(one), Else: "t"},
		`exit in to c if 1 else "";`:                   {Dir: 11, To: "c", When: if1(one)},
		`exit in to c if not a or 1 else "t";`:         {Dir: 11, To: "c", When: if1(bin(not(a), 1, one)), Else: "t"},
		`exit in to c if a has lit else "t";`:          {Dir: 11, To: "c", When: if1(has(a, "lit")), Else: "t"},
		`exit in to c if (a) else "t";`:                {Dir: 11, To: "c", When: if1(a), Else: "t"},
		`exit in to c if ` + deep(31) + ` else "t";`:   {Dir: 11, To: "c", When: if1(deepExpr(31)), Else: "t"},
		`exit in to c if a in here and 1 else "a\nb";`: {Dir: 11, To: "c", When: if1(bin(bin(a, 9, self(1)), 2, one)), Else: "a\nb"},
	} {
		checkItems(t, src, api.Object{Exits: []api.Exit{want}})
		checkItems(t, src+" "+src, api.Object{Exits: []api.Exit{want, want}})
	}
	for _, wrong := range []string{
		`exit in @c;`, `exit in to @;`, `exit in to @"c";`, `exit in to c @d;`, `exit in to c @, d;`, `exit in to c @"t";`, `exit in to c @}`, `exit in to c @{`, `exit in to c @to d;`, `exit in to c @and 1;`,
		`exit in to c if @;`, `exit in to c if @else "t";`, `exit in to c if 1 @"t";`, `exit in to c if 1 @if 1;`, `exit in to c if 1 @{ }`, `exit in to c if a @b;`, `exit in to c if 1 @}`,
		`exit in to c else @;`, `exit in to c else @t;`, `exit in to c else @if 1;`, `exit in to c else @else "t";`, `exit in to c else "t" @if 1;`, `exit in to c else "t" @"u";`, `exit in to c else "t" @, "u";`, `exit in to c else "t" @else "u";`, `exit in to c else "t" @}`,
		`exit in to c if 1 else @2;`, `exit in to c if 1 else "t" @else "u";`, `exit in to c if 1 else "t" @or 1;`, `exit in to c if @"t";`, `exit in to c if @title(a);`,
	} {
		checkItemFails(t, api.ErrToken, wrong)
	}
}

// TestPromise13_1Rules checks each phase with each way of naming things, with an if and without one.
func TestPromise13_1Rules(t *testing.T) {
	for phase, word := range []string{"before", "on", "after"} {
		for things, want := range map[string][2]string{
			"": {}, "(a)": {"a"}, "(any)": {}, "(a, b)": {"a", "b"}, "(any, b)": {"", "b"}, "(a, any)": {"a"}, "(any, any)": {}, "(b, b)": {"b", "b"},
		} {
			rule := api.Rule{Verb: "take", Phase: phase + 1, Noun: want[0], Second: want[1]}
			checkDecls(t, word+" take "+things+" { }", api.Source{Rules: []api.Rule{rule}})
			rule.Body = block(13, 14)
			checkDecls(t, word+" take"+things+"{ stop; win; }", api.Source{Rules: []api.Rule{rule, rule}[:1]})
			rule.When = if1(bin(named("a"), 9, named("b")))
			checkDecls(t, word+" take "+things+" if a in b { stop; win; }", api.Source{Rules: []api.Rule{rule}})
			rule.When, rule.Body = if1(has(self(3), "lit")), nil
			checkDecls(t, word+" take "+things+" if (noun has lit) { }", api.Source{Rules: []api.Rule{rule}})
		}
		for _, wrong := range []string{
			"@{ }", "@;", "@5 { }", `@"take"`, "@(a)", "@if 1", "@any",
			"take @;", "take @b { }", "take @=", "take @, b", "take @stop;", "take @}", `take @"a"`, "take @else", "take @meta",
			"take (@)", "take (@, a)", "take (@5)", "take (@here)", "take (@(a))", `take (@"a")`, "take (@{", "take (@;",
			"take (a @b)", "take (a @{", "take (a @. x)", "take (a @;", "take (any @any)", "take (any @{", "take (a @/ b)", "take (any @(",
			"take (a, @)", "take (a, @, b)", "take (a, @5)", "take (any, @noun)", "take (a, @;", "take (any, @{",
			"take (a, b @, c)", "take (any, any @, any)", "take (a, b @c)", "take (a, b @{ }", "take (a, b @;",
			"take (a) @(b) { }", "take (a) @;", "take (a) @stop;", "take (a, b) @in", "take (a) @, b", "take (a) @}",
			"take if @{ }", "take if 1 @;", "take if 1 @stop;", "take if 1 @if 1 { }", "take (a) if @{", `take if @"t" { }`, "take if 1 @else { }", "take if a @b { }", "take if 1 @, 2 { }",
		} {
			checkFail(t, api.ErrToken, word+" "+wrong)
		}
		checkFail(t, api.ErrToken, word+" take { } @{ }")
		checkFail(t, api.ErrToken, word+" take { } @else { }")
		checkFail(t, api.ErrToken, word+" take { } @;")
	}
}

// TestPromise13_1Numbers checks numbers that have no sign, and those that can have one.
func TestPromise13_1Numbers(t *testing.T) {
	for src, n := range map[string]int{"0": 0, "-0": 0, "1": 1, "-1": -1, "- 1": -1, "32767": 32767, "-32767": -32767, "- // five\n 5": -5} {
		pairs := []api.Pair{{Name: "p", Num: n}}
		checkDecls(t, "prop p = "+src+";", api.Source{Props: pairs})
		checkDecls(t, "global p = "+src+";", api.Source{Globals: pairs})
		checkItems(t, "p = "+src+";", api.Object{Props: pairs})
	}
	for _, wrong := range []string{
		"= @;", "= @a;", `= @"1";`, "= - @-1;", "= - @;", "= - @a;", "= -@(1);", "= @(1);", "= @+ 1;", "= @not 1;", "= 1 @+ 1;", "= 1 @2;", "= -1 @- 1;", "= 1 @, 2;", "= 1 @}", "= @here;", "= 1 @. x;",
		"@;", "@5;", "@== 1;", "@, q = 1;", "@- 1;", "@is 1;", "@1", "@. x = 1;", "@(1)", "@{",
	} {
		checkFail(t, api.ErrToken, "prop p "+wrong)
		checkFail(t, api.ErrToken, "global p "+wrong)
		checkItemFails(t, api.ErrToken, "p "+wrong)
	}
	for _, word := range []string{"prop", "global"} {
		for _, wrong := range []string{"@= 1;", "@;", "@5 = 1;", `@"p" = 1;`, "@score = 1;", "@-p = 1;", "@prop p = 1;", "@(p) = 1;"} {
			checkFail(t, api.ErrToken, word+" "+wrong)
		}
		checkFail(t, api.ErrToken, word+" p = 1; @p = 2;")
		checkFail(t, api.ErrToken, word+" p = 1; @;")
	}
}

// TestPromise13_1WrongTokens checks wrong tokens in declarations and items that have no test of their own.
func TestPromise13_1WrongTokens(t *testing.T) {
	for _, wrong := range []string{
		"@;", "@}", "@{ }", "@a;", "@a = 1;", "@5", `@"t"`, "@story", "@by", "@text \"a\";", "@is a;", "@exit in to a;", "@say 1;", "@in", "@meta", "@any", "@noun", "@-", "@|", "@words \"a\";", "@else",
		"flag @;", "flag @, a;", "flag @5;", `flag @"a";`, "flag @is;", "flag a @b;", "flag a @= 1;", "flag a @flag b;", "flag a, @;", "flag a, @, b;", "flag a, @5;", "flag a, @to;", "flag a, b @}", "flag a @{", "flag a; @a;", "flag a @/ b;", "flag @-a;",
		"room @;", "room @\"a\" { }", "room @5", "room @{ }", "room @here \"a\" { }", "room a @{ }", "room a @;", "room a @b { }", "room a @in b", "room a @5 { }", "room a \"b\" @;", "room a \"b\" @in c { }", "room a \"b\" @c { }", `room a "b" @"c" { }`, "room a \"b\" @= 1;", "room a \"b\" @(", "room a \"b\" @is lit;", `room a "b" @}`,
		"thing @;", "thing @\"a\" { }", "thing @5", "thing @in b", "thing a @{ }", "thing a @in b { }", "thing a @;", "thing a @5", "thing a \"b\" @;", "thing a \"b\" @c { }", "thing a \"b\" in @{ }", `thing a "b" in @"c" { }`, "thing a \"b\" in @5 { }", "thing a \"b\" in @here { }", "thing a \"b\" in c @;", "thing a \"b\" in c @in d { }", "thing a \"b\" in c @, d { }", "thing a \"b\" in c @d { }", `thing a "b" @to c { }`, `thing a "b" @out c { }`, `thing a "b" in @in c { }`,
		`room a "b" { } @;`, `room a "b" { } @}`, `thing a "b" { } @{ }`, `thing a "b" { is lit; } @is lit;`,
		"verb @= dir;", "verb @;", "verb @5 = dir;", `verb @"a" = dir;`, "verb @look = dir;", "verb @meta = dir;", "verb a @;", "verb a @dir;", "verb a @\"a\";", "verb a @b = dir;", "verb a @in = dir;", "verb a @== dir;", "verb a @{", "verb a @(b)",
		"verb a meta @;", "verb a meta @dir;", "verb a meta @meta = dir;", "verb a meta @b = dir;", "verb a = @;", "verb a = @| dir;", "verb a = @/ \"b\";", "verb a = @a;", "verb a = @5;", "verb a = @in;", "verb a = @north;", "verb a = @any;", "verb a = @second;", "verb a = @, dir;", "verb a = @meta;",
		"verb a = dir @a;", "verb a = dir @}", "verb a = dir @, dir;", "verb a = dir @/ \"a\";", "verb a = noun @/ noun;", "verb a = dir @= dir;", "verb a = dir @5", "verb a = dir @any;", "verb a = dir | @;", "verb a = dir | @| dir;", "verb a = dir | @a;", "verb a = dir | @/", "verb a = dir | @verb", "verb a = dir @{ }", "verb a = dir @(dir)",
		`verb a = "b" / @;`, `verb a = "b" / @/ "c";`, `verb a = "b" / @noun;`, `verb a = "b" / @c;`, `verb a = "b" / @5;`, `verb a = "b" / @| "c";`, `verb a = "b" @, "c";`, `verb a = "b" @b;`, `verb a = "b" @or "c";`, `verb a = "b" / "c" @+ "d";`, `verb a = "b" / "c" @verb b`,
		`verb a = dir; @| dir;`, `verb a = dir; @dir;`, `verb a = dir; @;`,
		"func @;", "func @(a) { }", "func @5() { }", `func @"f"() { }`, "func @look() { }", "func f @;", "func f @{ }", "func f @a) { }", "func f @= 1;", "func f(@;", "func f(@, a) { }", "func f(@5) { }", "func f(@here) { }", "func f(@any) { }", `func f(@"a") { }`, "func f(@(a)) { }", "func f(@{",
		"func f(a @;", "func f(a @b) { }", "func f(a @{ }", "func f(a @= 1) { }", "func f(a, @) { }", "func f(a, @, b) { }", "func f(a, @5) { }", "func f(a, @in) { }", "func f(a @. b) { }", "func f() @;", "func f() @if 1 { }", "func f() @(a) { }", "func f() @stop;", "func f(a) @= 1;", "func f(a, b) @b { }", "func f() @}",
		"func f() { } @;", "func f() { } @{ }", "func f() { } @else { }", "func f() { } @}",
		"daemon @;", "daemon @{ }", "daemon @5 { }", `daemon @"d" { }`, "daemon @look { }", "daemon d @;", "daemon d @(a) { }", "daemon d @( ) { }", "daemon d @if 1 { }", "daemon d @e { }", "daemon d @stop;", "daemon d @= 1;", "daemon d @in a", "daemon d @}", "daemon d { } @;", "daemon d { } @}",
	} {
		checkFail(t, api.ErrToken, wrong)
	}
	for _, wrong := range []string{
		"@;", "@{ }", "@5 = 1;", `@"t"`, "@flag a;", "@room a \"b\" { }", "@stop;", "@in c;", "@title", "@prop p = 1;", "@if 1 { }", "@north to a;", "@to", "@any", "@-", "@(", "@, a", "@say \"a\";",
		"text @;", "text @a;", "text @5;", `text @, "a";`, "text @text;", `text "a" @, "b";`, `text "a" @"b";`, `text "a" @}`, `text "a" @+ "b";`, `text @= 1;`, `text @{ }`, `text "a" @is lit;`, `text "a"; @;`,
		"words @;", "words @a;", "words @5;", `words @, "a";`, `words "a" @"b";`, `words "a" @/ "b";`, `words "a" @b;`, `words "a", @;`, `words "a", @, "b";`, `words "a", @b;`, `words "a" @}`, `words "a", "b" @{`, `words "a" @words "b";`, `words @= 1;`, `words "a" @| "b";`,
		"adjs @;", "adjs @a;", "adjs @5;", `adjs @, "a";`, `adjs "a" @"b";`, `adjs "a" @/ "b";`, `adjs "a" @b;`, `adjs "a", @;`, `adjs "a", @, "b";`, `adjs "a", @words`, `adjs "a" @}`, `adjs "a", "b" @{`, `adjs "a" @adjs "b";`, `adjs @= 1;`,
		"is @;", "is @, a;", "is @5;", `is @"a";`, "is @is;", "is @not a;", "is a @b;", "is a @= 1;", "is a @is b;", "is a, @;", "is a, @, b;", "is a, @5;", "is a, @in;", "is a, b @}", "is a @{", `is a, @"b";`, "is a @and b;", "is a @/ b;",
		"is a; @;", "p = 1; @;", "exit in to c; @;", "is a; @{ }",
	} {
		checkItemFails(t, api.ErrToken, wrong)
		checkItemFails(t, api.ErrToken, "is lit; "+wrong)
	}
}

// TestPromise13_1TheEnd checks every beginning of a source with everything, with a TokEnd and without one.
func TestPromise13_1TheEnd(t *testing.T) {
	short := api.Fail{Err: api.ErrShort}
	check(t, []api.Tok{}, api.Source{}, short)
	check(t, []api.Tok{{Line: 3, Col: 9}}, api.Source{}, api.Fail{Err: api.ErrShort, Line: 3, Col: 9})
	checkFails(t, api.ErrShort, "@")
	checkFails(t, api.ErrShort, "\n  // nothing\n@")
	complete := map[int]api.Source{len(tokens(head)): headOf()}
	want, src := headOf(), head
	for _, c := range samples() {
		want, src = with(want, c.want), src+c.src
		complete[len(tokens(src))] = want
	}
	l := tokens(src)
	for n := range len(l) + 1 {
		want, ok := complete[n]
		fail, atEnd := api.Fail{}, api.Fail{}
		if !ok {
			fail, atEnd = short, api.Fail{Err: api.ErrShort, Line: 77, Col: 8}
		}
		check(t, l[:n], want, fail)
		check(t, append(l[:n:n], api.Tok{Line: 77, Col: 8}), want, atEnd)
	}
}

// checkVerdict checks the failure of l, and whether a source contains the names, texts and numbers of its tokens.
func checkVerdict(t *testing.T, l []api.Tok, want verdict) {
	t.Helper()
	got, fail := decl.Parse(l)
	if fail != want.fail || fail != (api.Fail{}) && !same(got, api.Source{}) {
		t.Fatalf("%s\ngives %+v, %+v\nwant %+v", shown(l), got, fail, want)
	}
	if fail == (api.Fail{}) && !slices.Equal(contents(got), words(l[:want.read])) {
		t.Fatalf("%s\ngives %+v", shown(l), got)
	}
}

// words is the names, texts and numbers of tokens, in order of the alphabet.
func words(l []api.Tok) []string {
	var found []string
	for _, tok := range l {
		switch tok.Kind {
		case 1, 3:
			found = append(found, tok.Text)
		case 2:
			found = append(found, strconv.Itoa(tok.Num))
		}
	}
	return sorted(found)
}

// sorted is the words of a list that are not empty, in order of the alphabet.
func sorted(l []string) []string {
	l = slices.DeleteFunc(l, func(s string) bool { return s == "" })
	slices.Sort(l)
	return l
}

// contents is the names, texts and numbers of a source, in order of the alphabet.
func contents(s api.Source) []string {
	c := &collector{}
	c.add(s.Title, s.By, s.Start)
	c.number(s.Release, s.Max)
	c.add(s.Flags...)
	c.pairs(s.Props)
	c.pairs(s.Globals)
	for _, o := range s.Objects {
		c.add(o.Name, o.Title, o.In, o.Text)
		c.add(slices.Concat(o.Words, o.Adjs, o.Flags)...)
		c.pairs(o.Props)
		for _, e := range o.Exits {
			c.add(e.To, e.Else)
			c.exprs(e.When)
		}
	}
	for _, v := range s.Verbs {
		c.add(v.Name)
		for _, slot := range slices.Concat(v.Lines...) {
			c.add(slot.Words...)
		}
	}
	for _, r := range s.Rules {
		c.add(r.Verb, r.Noun, r.Second)
		c.exprs(r.When)
		c.block(r.Body)
	}
	for _, f := range slices.Concat(s.Funcs, s.Daemons) {
		c.add(f.Name)
		c.add(f.Params...)
		c.block(f.Body)
	}
	return sorted(c.found)
}

// collector collects what parts of a source contain.
type collector struct{ found []string }

func (c *collector) add(l ...string) { c.found = append(c.found, l...) }

func (c *collector) number(l ...int) {
	for _, n := range l {
		c.add(strconv.Itoa(max(n, -n)))
	}
}

func (c *collector) pairs(l []api.Pair) {
	for _, p := range l {
		c.add(p.Name)
		c.number(p.Num)
	}
}

func (c *collector) exprs(l []api.Expr) {
	for _, e := range l {
		c.add(e.Name)
		if e.Kind == 1 {
			c.number(e.Num)
		}
		c.exprs(e.Args)
	}
}

func (c *collector) block(l []api.Stmt) {
	for _, s := range l {
		c.add(s.Name)
		c.exprs(s.Args)
		c.block(s.Body)
		c.block(s.Else)
	}
}

// TestPromise13_1TokensLeftOutAndWrong checks each declaration and the head with each token left out, and with every other token in its place and ahead of it.
func TestPromise13_1TokensLeftOutAndWrong(t *testing.T) {
	first := tokens(head)
	checkChanged(t, newSources(), nil, first)
	after := newSources().after(placed(first))
	for _, c := range samples() {
		checkChanged(t, after, first, slices.Concat(tokens(c.src), []api.Tok{{}}))
	}
}

// checkChanged checks l, which stands behind the tokens of which s is the readings, with one token left out, replaced or inserted.
func checkChanged(t *testing.T, s sources, ahead, l []api.Tok) {
	t.Helper()
	checkRead := func(parts ...[]api.Tok) {
		t.Helper()
		changed := placed(slices.Concat(ahead, slices.Concat(parts...)))
		checkVerdict(t, changed, s.verdict(changed))
	}
	for i := range l {
		checkRead(l[:i], l[i+1:])
		for _, tok := range alphabet() {
			one := []api.Tok{tok}
			checkRead(l[:i], one, l[i:])
			checkRead(l[:i], one, l[i+1:])
		}
		s = s.next(placed(slices.Concat(ahead, l))[len(ahead)+i])
	}
}

// TestPromise13_1AllShortLists checks every list of a few tokens of the alphabet behind several beginnings, as far as what follows its first wrong token matters.
func TestPromise13_1AllShortLists(t *testing.T) {
	letters := alphabet()
	checked := 0
	var explore func(s sources, l []api.Tok, more int)
	explore = func(s sources, l []api.Tok, more int) {
		for _, tok := range letters {
			longer := placed(append(slices.Clone(l), tok))
			checkVerdict(t, longer, s.verdict(longer))
			checked++
			if next := s.next(tok); next.strict.possible() && more > 1 {
				explore(next, longer, more-1)
			}
		}
	}
	for beginning, more := range map[string]int{
		"": 13, head: 4, head + `flag a`: 5, head + `prop p = `: 5, head + `room a "b" {`: 5, head + `thing a "b" { text "t"; `: 5,
		head + `thing a "b" { exit in`: 5, head + `thing a "b" { exit in to c`: 4, head + `room a "b" { words "a"`: 5, head + `verb a = `: 5, head + `verb a meta = "b" `: 5,
		head + `on a`: 4, head + `on a (`: 5, head + `before a (any, `: 5, head + `func f(`: 5, head + `func f(a`: 4, head + `daemon d `: 4,
	} {
		l := tokens(beginning)
		explore(newSources().after(l), l, more)
	}
	if checked < 200000 {
		t.Fatalf("only %d lists are checked", checked)
	}
}

// TestPromise13_1SecondText checks that an object has one text at most, whatever that text is.
func TestPromise13_1SecondText(t *testing.T) {
	for _, first := range []string{`text "a";`, `text "";`, `text "a"; is lit;`, `is lit; text "a"; exit in to c; p = 1;`, `words "text"; text "text"; adjs "text";`} {
		for _, second := range []string{`text "b"; }`, `text ""; }`, `text; }`, `text`, `text "b"`, `text = 1; }`, `text text`} {
			checkItemFails(t, api.ErrTwice, first+" @"+second)
			checkItemFails(t, api.ErrTwice, first+" @"+second+" text \"c\"; flag ;")
		}
		checkItemFails(t, api.ErrToken, first+` @"a";`)
	}
	one := func(name string) api.Object { return api.Object{Name: name, Title: "b", Text: "t"} }
	checkDecls(t, `thing a "b" { text "t"; } thing c "b" { text "t"; }`, api.Source{Objects: []api.Object{one("a"), one("c")}})
	checkFail(t, api.ErrTwice, `thing a "b" { text "t"; } thing c "b" { text "t"; @text "t"; }`)
	checkFail(t, api.ErrToken, `thing a "b" { text @text "t"; }`)
	checkItemFails(t, api.ErrToken, `text "t" @text "t";`)
}
