package show_test

import (
	"fmt"
	"strconv"
	"strings"
	"testing"

	"clew/api"
	"clew/clause"
	"clew/decl"
	"clew/lex"
	"clew/phrase"
	"clew/show"
)

// definedSource is Source by its definition, for valid sources.
func definedSource(s api.Source) string {
	lines := []string{fmt.Sprintf("story %s by %s release %d max %d start %s;", lex.Quote(s.Title), lex.Quote(s.By), s.Release, s.Max, s.Start)}
	if len(s.Flags) > 0 {
		lines = append(lines, "flag "+strings.Join(s.Flags, ", ")+";")
	}
	for _, p := range s.Props {
		lines = append(lines, fmt.Sprintf("prop %s = %d;", p.Name, p.Num))
	}
	for _, p := range s.Globals {
		lines = append(lines, fmt.Sprintf("global %s = %d;", p.Name, p.Num))
	}
	for _, o := range s.Objects {
		lines = append(lines, definedObject(o)...)
	}
	for _, v := range s.Verbs {
		lines = append(lines, definedVerb(v))
	}
	for _, r := range s.Rules {
		lines = append(lines, definedRule(r))
	}
	for _, f := range s.Funcs {
		lines = append(lines, "func "+f.Name+"("+strings.Join(f.Params, ", ")+") "+clause.PrintBlock(f.Body, 0))
	}
	for _, f := range s.Daemons {
		lines = append(lines, "daemon "+f.Name+" "+clause.PrintBlock(f.Body, 0))
	}
	return strings.Join(lines, "\n") + "\n"
}

func definedQuotes(l []string, separator string) string {
	var quoted []string
	for _, s := range l {
		quoted = append(quoted, lex.Quote(s))
	}
	return strings.Join(quoted, separator)
}

func definedObject(o api.Object) []string {
	first := "thing " + o.Name + " " + lex.Quote(o.Title)
	if o.Room {
		first = "room " + o.Name + " " + lex.Quote(o.Title)
	}
	if o.In != "" {
		first += " in " + o.In
	}
	lines := []string{first + " {"}
	if o.Text != "" {
		lines = append(lines, "\ttext "+lex.Quote(o.Text)+";")
	}
	if len(o.Words) > 0 {
		lines = append(lines, "\twords "+definedQuotes(o.Words, ", ")+";")
	}
	if len(o.Adjs) > 0 {
		lines = append(lines, "\tadjs "+definedQuotes(o.Adjs, ", ")+";")
	}
	if len(o.Flags) > 0 {
		lines = append(lines, "\tis "+strings.Join(o.Flags, ", ")+";")
	}
	for _, p := range o.Props {
		lines = append(lines, fmt.Sprintf("\t%s = %d;", p.Name, p.Num))
	}
	for _, e := range o.Exits {
		exit := "\texit " + strings.Fields(directionList)[e.Dir-1] + " to " + e.To + definedWhen(e.When)
		if e.Else != "" {
			exit += " else " + lex.Quote(e.Else)
		}
		lines = append(lines, exit+";")
	}
	return append(lines, "}")
}

func definedWhen(l []api.Expr) string {
	if len(l) == 0 {
		return ""
	}
	return " if " + phrase.Print(l[0])
}

func definedVerb(v api.Verb) string {
	var lines []string
	for _, l := range v.Lines {
		var slots []string
		for _, s := range l {
			slots = append(slots, []string{1: definedQuotes(s.Words, " / "), 2: "noun", 3: "many", 4: "number", 5: "dir"}[s.Kind])
		}
		lines = append(lines, strings.Join(slots, " "))
	}
	if v.Meta {
		return "verb " + v.Name + " meta = " + strings.Join(lines, " | ") + ";"
	}
	return "verb " + v.Name + " = " + strings.Join(lines, " | ") + ";"
}

func definedRule(r api.Rule) string {
	things := map[[2]bool]string{{true, true}: "", {false, true}: "(" + r.Noun + ")", {true, false}: "(any, " + r.Second + ")", {false, false}: "(" + r.Noun + ", " + r.Second + ")"}
	return []string{1: "before ", 2: "on ", 3: "after "}[r.Phase] + r.Verb + things[[2]bool{r.Noun == "", r.Second == ""}] + definedWhen(r.When) + " " + clause.PrintBlock(r.Body, 0)
}

// TestPromise14_2Example checks the document's example.
func TestPromise14_2Example(t *testing.T) {
	s := api.Source{Title: "Tale", By: "nobody", Release: 1, Start: "hall", Objects: []api.Object{{Name: "hall", Title: "Hall", Room: true}}}
	want := "story \"Tale\" by \"nobody\" release 1 max 0 start hall;\nroom hall \"Hall\" {\n}\n"
	checkText(t, s, want)
	s.Rules = []api.Rule{{Verb: "take", Phase: api.On, Second: "lamp"}}
	checkText(t, s, want+"on take(any, lamp) {\n}\n")
}

func TestPromise14_4Head(t *testing.T) {
	checkText(t, bare(), head)
	for _, c := range []struct {
		s    api.Source
		want string
	}{
		{api.Source{Start: "a"}, `story "" by "" release 0 max 0 start a;`},
		{api.Source{Title: "x", Start: "a"}, `story "x" by "" release 0 max 0 start a;`},
		{api.Source{By: "y", Start: "a"}, `story "" by "y" release 0 max 0 start a;`},
		{api.Source{Release: 1, Max: 2, Start: "b_2"}, `story "" by "" release 1 max 2 start b_2;`},
		{api.Source{Release: 32767, Start: "a"}, `story "" by "" release 32767 max 0 start a;`},
		{api.Source{Max: 32767, Start: "a"}, `story "" by "" release 0 max 32767 start a;`},
		{api.Source{Release: 10, Max: 100, Start: strings.Repeat("n", 24)}, `story "" by "" release 10 max 100 start nnnnnnnnnnnnnnnnnnnnnnnn;`},
		{api.Source{Title: "a \"b\"\nc\\", By: "\\n\n\"", Start: "a"}, `story "a \"b\"\nc\\" by "\\n\n\"" release 0 max 0 start a;`},
		{api.Source{Title: " a  b ", By: "// no", Start: "a"}, `story " a  b " by "// no" release 0 max 0 start a;`},
	} {
		checkText(t, c.s, c.want+"\n")
	}
}

func TestPromise14_4Flags(t *testing.T) {
	for want, flags := range map[string][]string{"flag wet;": {"wet"}, "flag wet, worn;": {"wet", "worn"}, "flag b, a, b;": {"b", "a", "b"}, "flag lit, open, box, hidden;": {"lit", "open", "box", "hidden"}} {
		s := bare()
		s.Flags = flags
		checkLines(t, s, want)
	}
	s := bare()
	s.Flags = list(mostFlags, name)
	checkLines(t, s, "flag n0, n1, n2, n3, n4, n5, n6, n7, n8, n9, n10, n11, n12, n13, n14, n15;")
}

func TestPromise14_4Pairs(t *testing.T) {
	for _, n := range []int{0, 1, -1, 9, 10, -10, 255, 256, -256, 1000, -1000, 32766, 32767, -32766, -32767} {
		for _, of := range []string{"a", "size_2", strings.Repeat("n", 24)} {
			l := []api.Pair{{Name: of, Num: n}}
			written := of + " = " + strconv.Itoa(n) + ";"
			s := bare()
			s.Props = l
			checkLines(t, s, "prop "+written)
			s.Props, s.Globals = nil, l
			checkLines(t, s, "global "+written)
			s.Props = append(l, api.Pair{Name: "b", Num: 5})
			checkLines(t, s, "prop "+written, "prop b = 5;", "global "+written)
			s = bare()
			s.Objects = []api.Object{{Name: "a", Props: l}}
			checkLines(t, s, `thing a "" {`, "\t"+written, "}")
		}
	}
	s := bare()
	s.Globals = []api.Pair{{Name: "b", Num: 2}, {Name: "a", Num: -1}, {Name: "b", Num: 3}}
	checkLines(t, s, "global b = 2;", "global a = -1;", "global b = 3;")
}

// item is something that an object has, and its lines.
type item struct {
	lines []string
	add   func(o *api.Object)
}

// items is one of each kind of items in the order of the chapter; that of exits only for rooms.
func items(isRoom bool) []item {
	l := []item{
		{[]string{`text "It \"is\".\n";`}, func(o *api.Object) { o.Text = "It \"is\".\n" }},
		{[]string{`words "a", "b \\", "";`}, func(o *api.Object) { o.Words = []string{"a", "b \\", ""} }},
		{[]string{`adjs "c\n", "a";`}, func(o *api.Object) { o.Adjs = []string{"c\n", "a"} }},
		{[]string{"is lit, a, lit;"}, func(o *api.Object) { o.Flags = []string{"lit", "a", "lit"} }},
		{[]string{"b = -3;", "a = 4;"}, func(o *api.Object) { o.Props = []api.Pair{{Name: "b", Num: -3}, {Name: "a", Num: 4}} }},
	}
	if isRoom {
		return append(l, item{[]string{"exit up to a;", `exit in to b if 1 else "No.";`}, func(o *api.Object) {
			o.Exits = []api.Exit{{Dir: 9, To: "a"}, {Dir: 11, To: "b", When: when(number(1)), Else: "No."}}
		}})
	}
	return l
}

// TestPromise14_4Objects checks rooms and things with each selection of items.
func TestPromise14_4Objects(t *testing.T) {
	for _, c := range []struct {
		o     api.Object
		first string
	}{
		{api.Object{Name: "hall", Title: "Hall", Room: true}, `room hall "Hall" {`}, {api.Object{Name: "a", Room: true}, `room a "" {`}, {api.Object{Name: "b", Title: "\"\\\n", Room: true}, `room b "\"\\\n" {`},
		{api.Object{Name: "lamp", Title: "lamp"}, `thing lamp "lamp" {`}, {api.Object{Name: "a"}, `thing a "" {`}, {api.Object{Name: "lamp", Title: "old lamp", In: "hall"}, `thing lamp "old lamp" in hall {`}, {api.Object{Name: "a", In: "a"}, `thing a "" in a {`},
	} {
		all := items(c.o.Room)
		for selection := range 1 << len(all) {
			o, lines := c.o, []string{c.first}
			for i, item := range all {
				if selection>>i&1 == 1 {
					item.add(&o)
					lines = append(lines, "\t"+strings.Join(item.lines, "\n\t"))
				}
			}
			lines = append(lines, "}")
			s := bare()
			s.Objects = []api.Object{o}
			checkLines(t, s, lines...)
			s.Objects = []api.Object{o, {Name: "z", Room: true}, o}
			checkLines(t, s, append(append(lines, `room z "" {`, "}"), lines...)...)
		}
	}
}

// TestPromise14_4Lists checks lists of texts and names of one element and of as many as there can be.
func TestPromise14_4Lists(t *testing.T) {
	for _, isRoom := range []bool{false, true} {
		for _, c := range []struct {
			o    api.Object
			want string
		}{
			{api.Object{Words: []string{"lamp"}}, `words "lamp";`}, {api.Object{Words: []string{""}}, `words "";`}, {api.Object{Words: []string{"", ""}}, `words "", "";`}, {api.Object{Words: list(8, name)}, `words "n0", "n1", "n2", "n3", "n4", "n5", "n6", "n7";`},
			{api.Object{Adjs: []string{"old"}}, `adjs "old";`}, {api.Object{Adjs: []string{""}}, `adjs "";`}, {api.Object{Adjs: []string{"a, b", "c"}}, `adjs "a, b", "c";`}, {api.Object{Adjs: list(8, name)}, `adjs "n0", "n1", "n2", "n3", "n4", "n5", "n6", "n7";`},
			{api.Object{Flags: []string{"lit"}}, "is lit;"}, {api.Object{Flags: []string{"lit", "wet"}}, "is lit, wet;"}, {api.Object{Flags: list(16, name)}, "is n0, n1, n2, n3, n4, n5, n6, n7, n8, n9, n10, n11, n12, n13, n14, n15;"},
			{api.Object{Text: "a"}, `text "a";`}, {api.Object{Text: " "}, `text " ";`}, {api.Object{Text: "\n"}, `text "\n";`}, {api.Object{Text: "a" + strings.Repeat("\\", 1023)}, `text "a` + strings.Repeat(`\\`, 1023) + `";`},
		} {
			s, first := bare(), `thing a "" {`
			if isRoom {
				first = `room a "" {`
			}
			c.o.Name, c.o.Room = "a", isRoom
			s.Objects = []api.Object{c.o}
			checkLines(t, s, first, "\t"+c.want, "}")
		}
	}
}

func TestPromise14_4Exits(t *testing.T) {
	exits := func(l ...api.Exit) api.Source {
		s := bare()
		s.Objects = []api.Object{{Name: "a", Room: true, Exits: l}}
		return s
	}
	for i, word := range strings.Fields(directionList) {
		checkLines(t, exits(api.Exit{Dir: i + 1, To: "b"}), `room a "" {`, "\texit "+word+" to b;", "}")
		checkLines(t, exits(api.Exit{Dir: i + 1, To: "b", When: when(named("c")), Else: "d"}), `room a "" {`, "\texit "+word+" to b if c else \"d\";", "}")
	}
	for want, e := range map[string]api.Exit{
		"exit north to hall;":                       {Dir: 1, To: "hall"},
		"exit north to hall if door has open;":      {Dir: 1, To: "hall", When: when(has(named("door"), "open"))},
		`exit north to hall else "No.";`:            {Dir: 1, To: "hall", Else: "No."},
		`exit north to hall if -1 else "\"No\"\n";`: {Dir: 1, To: "hall", When: when(neg(number(1))), Else: "\"No\"\n"},
		`exit down to z else " ";`:                  {Dir: 10, To: "z", Else: " "},
		"exit out to a if f() or not a in here;":    {Dir: 12, To: "a", When: when(bin(call("f"), 1, not(bin(named("a"), 9, self(1)))))},
		`exit in to a if (a + b) * -c else "else";`: {Dir: 11, To: "a", When: when(bin(bin(named("a"), 10, named("b")), 12, neg(named("c")))), Else: "else"},
	} {
		checkLines(t, exits(e), `room a "" {`, "\t"+want, "}")
		checkLines(t, exits(e, api.Exit{Dir: 2, To: "s"}, e), `room a "" {`, "\t"+want, "\texit south to s;", "\t"+want, "}")
	}
}

func TestPromise14_4Verbs(t *testing.T) {
	noun, many, num, dir := slot(0), slot(1), slot(2), slot(3)
	for want, v := range map[string]api.Verb{
		"verb go = dir;":            {Name: "go", Lines: [][]api.Slot{{dir}}},
		"verb go meta = dir;":       {Name: "go", Meta: true, Lines: [][]api.Slot{{dir}}},
		"verb a = noun;":            {Name: "a", Lines: [][]api.Slot{{noun}}},
		"verb a = many;":            {Name: "a", Lines: [][]api.Slot{{many}}},
		"verb a = number;":          {Name: "a", Lines: [][]api.Slot{{num}}},
		`verb a = "";`:              {Name: "a", Lines: [][]api.Slot{{words("")}}},
		`verb wait = "wait" / "z";`: {Name: "wait", Lines: [][]api.Slot{{words("wait", "z")}}},
		`verb take = "take" / "get" many | "pick" "up" noun | dir;`:   {Name: "take", Lines: [][]api.Slot{{words("take", "get"), many}, {words("pick"), words("up"), noun}, {dir}}},
		`verb put meta = "put" noun "in" / "into" noun | number dir;`: {Name: "put", Meta: true, Lines: [][]api.Slot{{words("put"), noun, words("in", "into"), noun}, {num, dir}}},
		`verb a = "a" / "b" / "c" / "d" "e" / "f";`:                   {Name: "a", Lines: [][]api.Slot{{words("a", "b", "c", "d"), words("e", "f")}}},
		`verb a = "\"" / "\\" / "\n" / "/";`:                          {Name: "a", Lines: [][]api.Slot{{words("\"", "\\", "\n", "/")}}},
		"verb a = noun many number dir dir number many noun;":         {Name: "a", Lines: [][]api.Slot{{noun, many, num, dir, dir, num, many, noun}}},
		"verb a = dir | dir | noun | dir | dir | dir | many | dir;":   {Name: "a", Lines: [][]api.Slot{{dir}, {dir}, {noun}, {dir}, {dir}, {dir}, {many}, {dir}}},
	} {
		s := bare()
		s.Verbs = []api.Verb{v}
		checkLines(t, s, want)
		s.Verbs = []api.Verb{v, {Name: "z", Lines: [][]api.Slot{{many}}}, v}
		checkLines(t, s, want, "verb z = many;", want)
	}
}

// TestPromise14_4Rules checks rules of each phase with each of their parts present or not.
func TestPromise14_4Rules(t *testing.T) {
	for phase, word := range []string{1: "before", 2: "on", 3: "after"} {
		for things, r := range map[string]api.Rule{"": {}, "(lamp)": {Noun: "lamp"}, "(any, key)": {Second: "key"}, "(lamp, key)": {Noun: "lamp", Second: "key"}, "(a, a)": {Noun: "a", Second: "a"}, "(any_)": {Noun: "any_"}, "(any, any_)": {Second: "any_"}} {
			for condition, l := range map[string][]api.Expr{"": nil, " if 1": when(number(1)), " if not lamp has lit and -1 < 2 * (a - 3)": when(bin(not(has(named("lamp"), "lit")), 2, bin(neg(number(1)), 5, bin(number(2), 12, bin(named("a"), 11, number(3))))))} {
				for body, stmts := range map[string][]api.Stmt{"{\n}": nil, "{\n\tstop;\n}": block(stmt(13, "")), "{\n\twin;\n\tif a {\n\t\tlook;\n\t} else {\n\t\tsay \"a\\n\", 1;\n\t}\n}": block(stmt(14, ""), ifOf(named("a"), block(stmt(21, "")), block(stmt(1, "", text("a\n"), number(1)))))} {
					r.Verb, r.Phase, r.When, r.Body = "take", phase, l, stmts
					if phase == 0 {
						continue
					}
					s, want := bare(), word+" take"+things+condition+" "+body
					s.Rules = []api.Rule{r}
					checkLines(t, s, want)
					s.Rules = []api.Rule{r, {Verb: "z", Phase: 2}, r}
					checkLines(t, s, want, "on z {", "}", want)
				}
			}
		}
	}
}

func TestPromise14_4FuncsAndDaemons(t *testing.T) {
	for body, stmts := range map[string][]api.Stmt{"{\n}": nil, "{\n\treturn a + 1;\n}": block(stmt(12, "", bin(named("a"), 10, number(1)))), "{\n\twhile 0 {\n\t}\n\tf(1, -2);\n}": block(whileOf(number(0)), stmt(19, "", call("f", number(1), neg(number(2)))))} {
		for params, l := range map[string][]string{"()": nil, "(a)": {"a"}, "(b, a)": {"b", "a"}, "(a, a, a)": {"a", "a", "a"}, "(n0, n1, n2, n3, n4, n5, n6, n7)": list(8, name)} {
			s := bare()
			f := api.Func{Name: "f_1", Params: l, Body: stmts}
			s.Funcs = []api.Func{f}
			checkLines(t, s, "func f_1"+params+" "+body)
			s.Funcs = []api.Func{f, {Name: "g"}, f}
			checkLines(t, s, "func f_1"+params+" "+body, "func g() {", "}", "func f_1"+params+" "+body)
		}
		s := bare()
		d := api.Func{Name: "tick", Body: stmts}
		s.Daemons = []api.Func{d}
		checkLines(t, s, "daemon tick "+body)
		s.Daemons = []api.Func{d, {Name: "b"}, d}
		checkLines(t, s, "daemon tick "+body, "daemon b {", "}", "daemon tick "+body)
	}
}

// TestPromise14_2Order checks that the parts of a source stand in the order of the chapter, each kind behind each other.
func TestPromise14_2Order(t *testing.T) {
	lines := map[int]string{0: "flag a;", 1: "prop b = 1;", 2: "global c = 2;", 3: "room d \"\" {\n}", 4: "verb e = dir;", 5: "on f {\n}", 6: "func g() {\n}", 7: "daemon h {\n}"}
	for selection := range 1 << len(lines) {
		s := api.Source{Flags: []string{"a"}, Props: []api.Pair{{Name: "b", Num: 1}}, Globals: []api.Pair{{Name: "c", Num: 2}}, Objects: []api.Object{{Name: "d", Room: true}}, Verbs: []api.Verb{{Name: "e", Lines: [][]api.Slot{{slot(3)}}}}, Rules: []api.Rule{{Verb: "f", Phase: 2}}, Funcs: []api.Func{{Name: "g"}}, Daemons: []api.Func{{Name: "h"}}}
		s.Title, s.By, s.Start = "T", "A", "a"
		var want []string
		for i, drop := range []func(){func() { s.Flags = nil }, func() { s.Props = nil }, func() { s.Globals = nil }, func() { s.Objects = nil }, func() { s.Verbs = nil }, func() { s.Rules = nil }, func() { s.Funcs = nil }, func() { s.Daemons = nil }} {
			if selection>>i&1 == 0 {
				drop()
				continue
			}
			want = append(want, lines[i])
		}
		checkLines(t, s, want...)
	}
}

// TestPromise14_4WholeText checks the text of a source with all kinds of parts at once.
func TestPromise14_4WholeText(t *testing.T) {
	s := whole()
	for _, field := range bodies(&s).fields {
		*field = (*field)[:min(len(*field), 2)]
	}
	const body = "{\n\tsay \"say \\\"it\\\"\", title(a), 1;\n\tlet b = -1;\n}\n"
	checkText(t, s, "story \"A \\\"Tale\\\"\" by \"me\" release 2 max 10 start hall;\nflag lit, wet, worn;\nprop size = -3;\nprop cost = 5;\nglobal count = 7;\nglobal time = -1;\n"+
		"room hall \"Hall\" {\n\ttext \"A hall.\\n\";\n\twords \"hall\", \"room\";\n\tadjs \"great\";\n\tis lit, wet;\n\tsize = 4;\n\tcost = 0;\n\texit north to yard if count >= 2 else \"No.\";\n\texit in to hall;\n\texit out to yard else \"\\\\\";\n\texit northeast to yard if lamp has lit;\n}\n"+
		"thing lamp \"lamp\" in hall {\n\ttext \"Old.\";\n\twords \"lamp\", \"light\", \"\";\n\tadjs \"brass\", \"old\";\n\tis worn;\n\tcost = -7;\n}\nroom yard \"\" {\n}\nthing key \"\" {\n}\n"+
		"verb take = \"take\" / \"get\" many | \"pick\" \"up\" noun | dir;\nverb wait meta = \"wait\" / \"z\" number;\n"+
		"on take(lamp, key) if count "+body+"after take(any, lamp) {\n\tlook;\n}\nbefore wait(key) {\n}\non wait if 0 {\n}\n"+
		"func f(x, y) "+body+"func g() {\n\treturn 1;\n}\ndaemon tick "+body+"daemon tock {\n}\n")
}

// TestPromise14_2Samples checks that the samples that are valid are read again, and that their texts are as defined.
func TestPromise14_2Samples(t *testing.T) {
	for i, s := range samples() {
		if show.Right(s) {
			checkText(t, s, definedSource(s))
		} else if i == 2 {
			t.Fatal("the sample with all parts is not valid")
		}
	}
}

// checkWritten checks the texts of sources in which one of the fields is that value, and that they are read again, for each of the fields.
func checkWritten[T any](t *testing.T, spotsOf func(s *api.Source) spots[T], values ...T) {
	t.Helper()
	base := whole()
	for i := range spotsOf(&base).fields {
		for _, value := range values {
			s := whole()
			*spotsOf(&s).fields[i] = value
			checkText(t, s, definedSource(s))
		}
	}
}

// TestPromise14_2EachField checks that what a field can be at its limits is written and read again, for each field by itself.
func TestPromise14_2EachField(t *testing.T) {
	checkWritten(t, names, "a", "z_9", strings.Repeat("n", mostName))
	checkWritten(t, choices, "", "a", "any_", strings.Repeat("n", mostName))
	checkWritten(t, texts, "", " ", "\n", "\"", "\\", "\\n", "a\\", "// a", strings.Repeat("x", mostText), strings.Repeat("\"", mostText), strings.Repeat("\\", mostText), strings.Repeat("\n", mostText))
	checkWritten(t, counts, 0, 1, 10, mostNumber)
	checkWritten(t, numbers, -mostNumber, -10, -1, 0, 1, 10, mostNumber)
	checkWritten(t, directions, 1, 2, 3, 4, 5, 6, 7, 8, 9, 10, 11, 12)
	checkWritten(t, phases, 1, 2, 3)
	for _, e := range goodExprs() {
		checkWritten(t, conditions, when(e))
	}
	for _, s := range everyStmt() {
		checkWritten(t, bodies, block(s), block(s, s))
	}
}

// TestPromise14_2TextsOfOtherForms checks that a source that is not written as Source writes it is printed in that form.
func TestPromise14_2TextsOfOtherForms(t *testing.T) {
	for src, want := range map[string]string{
		"story\"T\"by\"A\"release 0 max 0 start a;": "",
		head + "flag a; prop p=-0; flag b;":         "flag a, b;\nprop p = 0;\n",
		head + `thing a "b" in c { is x; a = 1; words "w"; is y; text ""; b = 2; adjs "v"; words "u"; } // end`: "thing a \"b\" in c {\n\twords \"w\", \"u\";\n\tadjs \"v\";\n\tis x, y;\n\ta = 1;\n\tb = 2;\n}\n",
		head + "daemon d{}global g=1;on v(any){}before v(any,any)if(((1))){stop;}":                              "global g = 1;\non v {\n}\nbefore v if 1 {\n\tstop;\n}\ndaemon d {\n}\n",
		head + `room a "" { exit in to b else ""; text "t"; } func f(){if 1{}else{}}`:                           "room a \"\" {\n\ttext \"t\";\n\texit in to b;\n}\nfunc f() {\n\tif 1 {\n\t}\n}\n",
	} {
		s, fail := decl.Read(src)
		if fail != (api.Fail{}) {
			t.Fatalf("%s is read with %+v", src, fail)
		}
		checkText(t, s, head+want)
	}
}
