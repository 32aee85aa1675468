package decl_test

import (
	"reflect"
	"slices"
	"strings"
	"testing"

	"clew/api"
	"clew/decl"
	"clew/lex"
)

// dice is a source of numbers that are the same in every run.
type dice struct{ state uint64 }

func (d *dice) below(n int) int {
	d.state = d.state*6364136223846793005 + 1442695040888963407
	return int(d.state>>33) % n
}

// one is one of a list.
func one[T any](d *dice, l []T) T { return l[d.below(len(l))] }

// grown is the parts of a symbol, each of which is written in one of its ways; the first one if it stands too deep.
func (d *dice) grown(g grammar, symbol string, depth int) []string {
	ways := g.of[symbol]
	if len(ways) == 0 {
		return []string{symbol}
	}
	way := ways[0]
	if depth > 0 {
		way = one(d, ways)
	}
	var l []string
	for _, part := range g.all[way].parts {
		l = append(l, d.grown(g, part, depth-1)...)
	}
	return l
}

// spelt is the text of a part that is no symbol.
func (d *dice) spelt(part string) string {
	switch part {
	case "NAME":
		return one(d, []string{"a", "b", "lamp", "take_2", "in_", "x9"})
	case "NUMBER":
		return one(d, []string{"0", "1", "77", "32767"})
	case "TEXT":
		return one(d, []string{`""`, `"a"`, `"a \"b\"\n"`, `"text"`, `"// no comment"`})
	case "DIR":
		return one(d, strings.Fields(directionList))
	case "BAR":
		return "|"
	}
	return part
}

// source is the tokens of a source that the grammar allows, as texts.
func (d *dice) source(g grammar, depth int) []string {
	l := d.grown(g, "Source", depth)
	for i, part := range l {
		l[i] = d.spelt(part)
	}
	return l
}

// separators is what can stand between tokens.
func separators() []string {
	return []string{" ", "\n", "\t", "  ", "\n\n", " // a comment\n", " //\n", " \t\n ", "\t// \"text; } {\n\t// flag a;\n", "\n// story @#$'A\n"}
}

// separated is texts with separators ahead of each of them and behind the last one.
func (d *dice) separated(l []string) string {
	s := ""
	for _, text := range l {
		s += one(d, separators()) + text
	}
	return s + one(d, separators())
}

func TestPromise13_1SourcesAtRandom(t *testing.T) {
	d, g, s := &dice{3}, newGrammar(oneText), newSources()
	whole, full := 0, 0
	for i := range 4000 {
		l := tokens(strings.Join(d.source(g, 4+i%10), " "))
		got, fail := decl.Parse(l)
		switch {
		case fail.Err == api.ErrCount:
			full++
		case fail != (api.Fail{}) || !slices.Equal(contents(got), words(l)):
			t.Fatalf("%s\ngives %+v, %+v", shown(l), got, fail)
		default:
			whole++
		}
		if i%20 == 0 && fail.Err != api.ErrCount {
			changed := slices.Clone(l)
			changed[d.below(len(l))] = one(d, alphabet())
			checkVerdict(t, placed(changed), s.verdict(placed(changed)))
		}
	}
	if whole < 3500 || full > 400 {
		t.Fatalf("%d sources are read, %d have too much", whole, full)
	}
}

// TestPromise13_2WhatLexRefuses checks the failures of lex.All, also where the tokens ahead of them are no source.
func TestPromise13_2WhatLexRefuses(t *testing.T) {
	name, digits := strings.Repeat("n", 25), "32768"
	for _, ahead := range []string{"", head, head + "flag a;\n", "flag ; ; ;", head + "room a \"b\" { text \"c\"; text \"d\";", "}", "\n// a comment\n\t", head + `verb v = "a" / "b" / "c" / "d" / "e"`, head + "flag a, "} {
		for src, err := range map[string]api.Errno{
			"A": api.ErrText, "#": api.ErrText, "!": api.ErrText, "\x00": api.ErrText, "// \x80": api.ErrText, "\r\n": api.ErrText, "'a'": api.ErrText, "\"\t\"": api.ErrText,
			`"\x"`: api.ErrForm, `"\`: api.ErrForm, "007": api.ErrForm, "5a": api.ErrForm, `"`: api.ErrShort, "\"a\n\"": api.ErrShort, "\"a\nflag b;": api.ErrShort,
			digits: api.ErrRange, "-" + digits: api.ErrRange, "99999999999999999999": api.ErrRange, name: api.ErrName, `"` + strings.Repeat("x", 1025) + `"`: api.ErrLong,
		} {
			for _, behind := range []string{"", " ;", "\n flag b;"} {
				text := ahead + src + behind
				l, want := lex.All(text)
				if want.Err != err || l != nil {
					t.Fatalf("lex.All(%q) = %+v", text, want)
				}
				if got, fail := decl.Read(text); fail != want || !same(got, api.Source{}) {
					t.Fatalf("Read(%q) = %+v, %+v, want %+v", text, got, fail, want)
				}
			}
		}
	}
}

// TestPromise13_2LongSources checks sources with as many bytes and tokens as there can be, and with more.
func TestPromise13_2LongSources(t *testing.T) {
	check := func(src string, want api.Fail) {
		t.Helper()
		if got, fail := decl.Read(src); fail != want || same(got, api.Source{}) != (want != (api.Fail{})) {
			t.Fatalf("a source of %d bytes gives %+v, want %+v", len(src), fail, want)
		}
	}
	longest := head + strings.Repeat(" ", 65536-len(head))
	check(longest, api.Fail{})
	check(longest+" ", api.Fail{Err: api.ErrLong, Line: 1, Col: 1})
	check(longest[:65535]+";", api.Fail{Err: api.ErrToken, Line: 1, Col: 65536})
	check(longest+";", api.Fail{Err: api.ErrLong, Line: 1, Col: 1})
	check(strings.Repeat("}", 65537), api.Fail{Err: api.ErrLong, Line: 1, Col: 1})
	rule := func(n int) string { return "on a { " + strings.Repeat("a = 1; ", n) + "}\n" }
	src := head + "flag a, b; " + strings.Repeat(rule(256), 15) + strings.TrimSuffix(rule(236), "\n")
	if n := len(tokens(src)); n != 16384 {
		t.Fatalf("there are %d tokens", n)
	}
	check(src, api.Fail{})
	behind := api.Fail{Err: api.ErrCount, Line: 16, Col: 9 + 7*236}
	check(src+"}", behind)
	check(src+" flag", api.Fail{Err: api.ErrCount, Line: 16, Col: behind.Col + 1})
	check("on "+src, api.Fail{Err: api.ErrCount, Line: 16, Col: behind.Col - 1})
}

// TestPromise13_2IsParseOfTheTokens checks Read against Parse, with sources that fail and others.
func TestPromise13_2IsParseOfTheTokens(t *testing.T) {
	d, g := &dice{21}, newGrammar(anyTexts)
	for i := range 3000 {
		texts := d.source(g, 3+i%9)
		if i%2 == 0 {
			texts[d.below(len(texts))] = one(d, []string{";", "", "a", "5", `"t"`, "}", "text", ", a", "if"})
		}
		src := strings.Join(texts, one(d, []string{" ", "\n"}))
		want, wantFail := decl.Parse(ended(src))
		if got, fail := decl.Read(src); !same(got, want) || fail != wantFail {
			t.Fatalf("Read(%s) = %+v, %+v, want %+v, %+v", src, got, fail, want, wantFail)
		}
	}
}

// placeOf is the index of the token at which a source fails.
func placeOf(t *testing.T, l []api.Tok, fail api.Fail) int {
	t.Helper()
	place := slices.IndexFunc(l, func(tok api.Tok) bool { return tok.Line == fail.Line && tok.Col == fail.Col })
	if place < 0 {
		t.Fatalf("%s fails at no token: %+v", shown(l), fail)
	}
	return place
}

// changed is texts of tokens with a wrong one somewhere, or without one.
func (d *dice) changed(l []string) []string {
	i := d.below(len(l))
	wrong := d.spelt(one(d, []string{"NAME", "NUMBER", "TEXT", "DIR", "BAR", ";", ",", "{", "}", "(", ")", "=", "if", "text", "-", "any", "noun", "story", "flag"}))
	switch d.below(3) {
	case 0:
		return slices.Concat(l[:i], []string{wrong}, l[i+1:])
	case 1:
		return slices.Concat(l[:i], []string{wrong}, l[i:])
	}
	return slices.Concat(l[:i], l[i+1:])
}

// failing is tokens that soon fail: a source with a wrong token, with another declaration than there can be, or with items behind those that there can be.
func (d *dice) failing(g grammar, depth int) []string {
	full := fullObject(one(d, []string{"room", "thing"}))
	ahead, symbol := "", ""
	switch d.below(12) {
	case 0:
		daemons := listings()[6]
		ahead, symbol = head+daemons.declarations(daemons.most, mixed)+"daemon d { } ", "Decls"
	case 1:
		ahead, symbol = head+strings.TrimSuffix(full, "} "), "Parts"
	case 2:
		ahead, symbol = head+strings.TrimSuffix(full, "} ")+`text "t";`, "Described"
	default:
		return d.changed(d.source(g, depth))
	}
	texts := []string{ahead}
	for _, part := range d.grown(g, symbol, depth) {
		texts = append(texts, d.spelt(part))
	}
	return texts
}

// TestPromise13_3WhatFollowsTheToken checks that sources that fail at a token fail there in the same way with other tokens behind it.
func TestPromise13_3WhatFollowsTheToken(t *testing.T) {
	d, g := &dice{8}, newGrammar(anyTexts)
	checked := map[api.Errno]int{}
	for i := range 3000 {
		l := placed(ended(strings.Join(d.failing(g, 4+i%9), " ")))
		_, want := decl.Parse(l)
		if want == (api.Fail{}) || want.Err == api.ErrShort || want.Err == api.ErrDepth {
			continue
		}
		checked[want.Err]++
		ahead := l[:placeOf(t, l, want)+1]
		check(t, ahead, api.Source{}, want)
		for range 4 {
			check(t, slices.Concat(ahead, ended(strings.Join(d.changed(d.source(g, 8)), " "))), api.Source{}, want)
			check(t, slices.Concat(ahead, []api.Tok{one(d, alphabet())}, l[len(ahead):]), api.Source{}, want)
			check(t, slices.Concat(ahead, l[d.below(len(l)):]), api.Source{}, want)
		}
	}
	if checked[api.ErrToken] < 1000 || checked[api.ErrCount] < 100 || checked[api.ErrTwice] < 100 {
		t.Fatalf("checked are only %v", checked)
	}
}

// TestPromise13_3SpacesAndComments checks that the same tokens with other spaces, line feeds and comments between them are the same source, or fail at the same token.
func TestPromise13_3SpacesAndComments(t *testing.T) {
	d, g := &dice{13}, newGrammar(anyTexts)
	both := map[bool]int{}
	for i := range 3000 {
		texts := d.source(g, 4+i%9)
		if i%2 == 0 {
			texts = d.failing(g, 4+i%9)
		}
		src := strings.Join(texts, " ")
		l := ended(src)
		want, wantFail := decl.Read(src)
		both[wantFail == (api.Fail{})]++
		for range 3 {
			other := d.separated(texts)
			got, fail := decl.Read(other)
			if !same(got, want) || fail.Err != wantFail.Err {
				t.Fatalf("Read(%q) = %+v, %+v, want %+v", other, got, fail, wantFail)
			}
			if fail.Err != api.OK && placeOf(t, ended(other), fail) != placeOf(t, l, wantFail) {
				t.Fatalf("Read(%q) = %+v, another token than in %s, %+v", other, fail, src, wantFail)
			}
		}
	}
	if both[true] < 1000 || both[false] < 1000 {
		t.Fatalf("checked are only %v", both)
	}
	src, want := wholeSource()
	var texts []string
	for _, tok := range tokens(src) {
		texts = append(texts, lex.Print([]api.Tok{tok}))
	}
	for range 20 {
		checkSource(t, d.separated(texts), want)
	}
	checkSource(t, strings.Join(texts, "\n"), want)
	checkSource(t, strings.Join(texts, " //\n"), want)
	checkSource(t, strings.NewReplacer(" }", "}", " )", ")", "; ", ";", ", ", ",", " = ", "=", " {", "{").Replace(src), want)
}

// TestP1AnyTokens checks that Parse ends for tokens that lex does not make, and for long lists.
func TestP1AnyTokens(t *testing.T) {
	d := &dice{5}
	letters := append(alphabet(), api.Tok{Kind: 9, Text: "flag"}, api.Tok{Kind: -1}, api.Tok{Kind: 5, Text: "flag"}, api.Tok{Kind: 4, Text: ";"}, api.Tok{Kind: 1}, api.Tok{Kind: 3, Text: "if"}, api.Tok{Kind: 2, Num: -5}, api.Tok{Kind: 5}, api.Tok{Kind: 4}, api.Tok{Kind: 1, Text: "flag"})
	beginnings := []string{"", head, head + "flag ", head + `room a "b" { `, head + "verb v = ", head + "on a ", head + "func f ( ", head + `thing a "b" { exit `}
	for i := range 40000 {
		l := tokens(beginnings[i%len(beginnings)])
		for range d.below(8) {
			l = append(l, one(d, letters))
		}
		if got, fail := decl.Parse(l); fail != (api.Fail{}) && !same(got, api.Source{}) {
			t.Fatalf("%s gives %+v, %+v", shown(l), got, fail)
		}
	}
	for _, word := range []string{"flag", "room", "verb", "on", "func", "daemon", ";", "}", ""} {
		for _, kind := range []int{1, 2, 3, 6, -4} {
			wrong := api.Tok{Kind: kind, Text: word, Line: 4, Col: 2}
			check(t, append(tokens(head), wrong), api.Source{}, api.Fail{Err: api.ErrToken, Line: 4, Col: 2})
			check(t, slices.Concat([]api.Tok{wrong}, ended(head)), api.Source{}, api.Fail{Err: api.ErrToken, Line: 4, Col: 2})
		}
	}
	for _, src := range []string{"(", "{", "flag a;", `room a "b" {`, "on a if (", "if 1 {", "-", ",", `"a"`, "noun", "text \"a\";", "= 1;", "exit in to a;"} {
		for _, beginning := range beginnings {
			long := slices.Concat(tokens(beginning), slices.Repeat(tokens(src), 20000))
			if got, fail := decl.Parse(long); fail == (api.Fail{}) || !same(got, api.Source{}) {
				t.Fatalf("many of %s behind %s give %+v", src, beginning, fail)
			}
		}
	}
	for _, src := range []string{strings.Repeat("\x00", 70000), "\xff\xfe", "\n", "//", `"`, strings.Repeat(`"`, 300)} {
		if got, fail := decl.Read(src); fail == (api.Fail{}) || !same(got, api.Source{}) {
			t.Fatalf("Read(%q) = %+v, %+v", src[:min(len(src), 20)], got, fail)
		}
	}
}

// spoil changes everything that lists of a value contain, and what could stand behind them.
func spoil(v reflect.Value) {
	switch v.Kind() {
	case reflect.Struct:
		for i := range v.NumField() {
			spoil(v.Field(i))
		}
	case reflect.Slice:
		for i := range v.Len() {
			spoil(v.Index(i))
			v.Index(i).SetZero()
		}
		if v.Len() < v.Cap() {
			v = v.Slice(0, v.Cap())
			spoil(v)
		}
	}
}

// listsOf is pointers to the lists of a value that have elements, also in its lists.
func listsOf(v reflect.Value) []reflect.Value {
	var l []reflect.Value
	switch v.Kind() {
	case reflect.Struct:
		for i := range v.NumField() {
			l = append(l, listsOf(v.Field(i))...)
		}
	case reflect.Slice:
		if v.Len() > 0 {
			l = append(l, v)
		}
		for i := range v.Len() {
			l = append(l, listsOf(v.Index(i))...)
		}
	}
	return l
}

// TestCallsChangeAndRememberNothing checks R3 and R4.
func TestCallsChangeAndRememberNothing(t *testing.T) {
	src, want := wholeSource()
	l := append(make([]api.Tok, 0, 5000), ended(src)...)
	kept := slices.Clone(l[:cap(l)])
	for range 3 {
		got, fail := decl.Parse(l)
		if !same(got, want) || fail != (api.Fail{}) || !slices.Equal(l[:cap(l)], kept) {
			t.Fatalf("%s\ngives %+v, %+v", shown(l), got, fail)
		}
		spoil(reflect.ValueOf(&got).Elem())
		if !slices.Equal(l[:cap(l)], kept) {
			t.Fatalf("the source shares memory with the tokens")
		}
		for _, wrong := range []string{"", "story", head + "flag ;", head + fullSource() + "on", head + `room a "b" { text "c"; text`} {
			if failed, fail := decl.Read(wrong); fail == (api.Fail{}) || !same(failed, api.Source{}) {
				t.Fatalf("%s gives %+v", wrong, fail)
			}
		}
		checkSource(t, src, want)
	}
	for n := range len(l) {
		decl.Parse(l[:n])
	}
	if !slices.Equal(l[:cap(l)], kept) {
		t.Fatalf("Parse changed its tokens")
	}
}

// TestListsShareNothing checks that no list of an answer changes with another one.
func TestListsShareNothing(t *testing.T) {
	src, _ := wholeSource()
	src += strings.Repeat(fullObject("room"), 3)
	first, _ := decl.Read(src)
	count := len(listsOf(reflect.ValueOf(&first).Elem()))
	if count < 50 {
		t.Fatalf("there are only %d lists", count)
	}
	for i := range count {
		got, _ := decl.Read(src)
		lists := listsOf(reflect.ValueOf(&got).Elem())
		if !isLeaf(lists[i]) {
			continue
		}
		copies := map[int]reflect.Value{}
		for j, l := range lists {
			if j != i && isLeaf(l) {
				copies[j] = reflect.AppendSlice(reflect.MakeSlice(l.Type(), 0, l.Len()), l)
			}
		}
		grown := lists[i].Slice(0, lists[i].Cap())
		for k := range grown.Len() {
			grown.Index(k).SetZero()
		}
		for j, l := range copies {
			if !equal(l, lists[j]) {
				t.Fatalf("list %d changes with list %d", j, i)
			}
		}
	}
}

// isLeaf reports whether the elements of a list contain no lists.
func isLeaf(l reflect.Value) bool {
	for i := range l.Len() {
		if len(listsOf(l.Index(i))) > 0 {
			return false
		}
	}
	return true
}
