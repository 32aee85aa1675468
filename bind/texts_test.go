package bind_test

import (
	"fmt"
	"slices"
	"strings"
	"testing"

	"clew/api"
	"clew/bind"
)

// place is where a text stands in a source. One that is optional is none if it is empty.
type place struct {
	what     string
	text     *string
	optional bool
}

// places is the places of 17.1, in its order; yourself is one that no source can change.
func places(s *api.Source) []place {
	yourself := "yourself"
	l := []place{{"the title", &s.Title, false}, {"the author", &s.By, false}, {"the player", &yourself, false}}
	for i := range s.Objects {
		o := &s.Objects[i]
		l = append(l, place{"a title of an object", &o.Title, false}, place{"a text of an object", &o.Text, true})
		for k := range o.Exits {
			l = append(l, place{"an exit", &o.Exits[k].Else, true})
		}
	}
	for i := range s.Rules {
		l = append(l, placesIn("a rule", s.Rules[i].Body)...)
	}
	for i := range s.Funcs {
		l = append(l, placesIn("a func", s.Funcs[i].Body)...)
	}
	for i := range s.Daemons {
		l = append(l, placesIn("a daemon", s.Daemons[i].Body)...)
	}
	return l
}

// placesIn is the places within statements.
func placesIn(what string, stmts []api.Stmt) []place {
	var l []place
	for i := range stmts {
		s := &stmts[i]
		for k := range s.Args {
			if s.Args[k].Kind == 2 {
				l = append(l, place{what, &s.Args[k].Name, false})
			}
		}
		l = append(l, placesIn(what, s.Body)...)
		l = append(l, placesIn(what, s.Else)...)
	}
	return l
}

// textsRead is what 17.1 says about a source.
func textsRead(s api.Source) []string {
	var l []string
	for _, p := range places(&s) {
		isText := *p.text != "" || !p.optional
		if isText && !slices.Contains(l, *p.text) {
			l = append(l, *p.text)
		}
	}
	return l
}

// sayings is statements with as many texts as possible: in Body and Else, within one another and side by side, and beside what is no text.
func sayings() []api.Stmt {
	return block(`say "", 1, "", title(lamp), ""; if 1 { say ""; } else { say ""; look; say "", count; }
		while 1 { if 2 { } else if 3 { say ""; } else { say ""; } say ""; each e in hall { say ""; while e { say ""; } } } say ""; each f in f1() { say "", ""; }`)
}

// numbered is a source with another text in each place: "t0", "t1", and so on, but for yourself.
func numbered() api.Source {
	s := api.Source{Title: "t", By: "t", Start: "hall", Props: []api.Pair{{Name: "size"}}, Globals: []api.Pair{{Name: "count"}}}
	exits := func(dirs ...int) []api.Exit {
		return list(len(dirs), func(i int) api.Exit {
			return api.Exit{Dir: dirs[i], To: "hall", When: list(i%2, func(int) api.Expr { return expr("count > 1") })}
		})
	}
	s.Objects = []api.Object{
		{Name: "hall", Room: true, Words: []string{"hall"}, Adjs: []string{"big"}, Exits: exits(12, 1, 7)}, {Name: "lamp", In: "hall", Words: []string{"lamp"}},
		{Name: "cave", Room: true, Exits: exits(1)}, {Name: "coin"}, {Name: "yard", Room: true, Exits: exits(3, 2)},
	}
	s.Verbs = []api.Verb{{Name: "take", Lines: [][]api.Slot{slots("WN")}}}
	for phase := range 3 {
		s.Rules = append(s.Rules, api.Rule{Verb: "take", Phase: 1 + phase, Noun: "lamp", When: list(phase/2, func(int) api.Expr { return expr("count") }), Body: sayings()})
	}
	s.Funcs = []api.Func{{Name: "f1", Body: sayings()}, {Name: "f2", Params: []string{"p"}, Body: append(sayings(), block("return 1;")...)}}
	s.Daemons = []api.Func{{Name: "d1", Body: sayings()}, {Name: "d2", Body: sayings()}}
	for i, p := range places(&s) {
		*p.text = fmt.Sprint("t", i)
	}
	return s
}

// checkTexts checks the texts of a source, and that they are those of its book with the numbers of the title and the author.
func checkTexts(t *testing.T, what string, s api.Source, want []string) {
	t.Helper()
	check(t, "the texts of "+what, bind.Texts(s), want)
	tables := book(t, s).Tables
	check(t, "the texts of the book of "+what, tables.Texts, want)
	check(t, "the numbers of the title and the author of "+what, []int{tables.Title, tables.By}, []int{slices.Index(want, s.Title), slices.Index(want, s.By)})
}

// TestTextsHead is 17.1: the title and the author, which are the same or not, and those of the player.
func TestTextsHead(t *testing.T) {
	const rest = ` release 1 max 5 start hall; room hall "Hall" { }`
	for text, want := range map[string][]string{
		`story "a" by "b"`: {"a", "b", "yourself", "Hall"}, `story "b" by "a"`: {"b", "a", "yourself", "Hall"}, `story "a" by "a"`: {"a", "yourself", "Hall"},
		`story "yourself" by "b"`: {"yourself", "b", "Hall"}, `story "a" by "yourself"`: {"a", "yourself", "Hall"}, `story "yourself" by "yourself"`: {"yourself", "Hall"},
		`story "Hall" by "b"`: {"Hall", "b", "yourself"}, `story "a" by "Hall"`: {"a", "Hall", "yourself"}, `story "Hall" by "Hall"`: {"Hall", "yourself"},
		`story "" by "b"`: {"", "b", "yourself", "Hall"}, `story "a" by ""`: {"a", "", "yourself", "Hall"}, `story "" by ""`: {"", "yourself", "Hall"},
		`story "Yourself" by "yourself "`: {"Yourself", "yourself ", "yourself", "Hall"},
	} {
		checkTexts(t, text, source(text+rest), want)
	}
	check(t, "the texts of nothing", bind.Texts(api.Source{}), []string{"", "yourself"})
	check(t, "the texts of a title", bind.Texts(api.Source{Title: "a"}), []string{"a", "", "yourself"})
}

// TestTextsAlone is 17.1: a source with one text beside the title, the author and the title of a room.
func TestTextsAlone(t *testing.T) {
	for _, part := range []string{
		`room cave "new" { }`, `thing cave "new" { }`, `room cave "Hall" { text "new"; }`, `thing cave "Hall" { text "new"; }`, `room cave "Hall" { exit north to hall else "new"; }`, `room cave "Hall" { exit north to hall; exit in to hall if 1 else "new"; }`,
		`on go { say "new"; }`, `before go { say "new"; }`, `after go if 1 { stop; say 1, "new"; }`, `func f() { say "new"; }`, `func f(a) { return a; say a, "new"; }`, `daemon d { say "new"; }`, `daemon d { look; say "new", 2; }`,
		`on go { if 1 { say "new"; } }`, `func f() { if 1 { } else { say "new"; } }`, `daemon d { while 1 { say "new"; } }`, `daemon d { each x in 1 { say "new"; } }`, `daemon d { if 1 { } else if 2 { } else { while 3 { look; each x in 1 { say x, "new"; } } } }`,
	} {
		checkTexts(t, part, source(head+`room hall "Hall" { } verb go = dir; `+part), []string{"Tale", "me", "yourself", "Hall", "new"})
	}
	const noTexts = `flag new; prop size = 1; global count = 1; room hall "Hall" { words "new"; adjs "new"; is new; exit in to hall if count; } verb go = "new" "new" / "new"; on go(hall) if count { say 1, title(hall); stop; } func f(a, b) { return a; } daemon d { halt d; }`
	checkTexts(t, "a source with words alone", source(head+noTexts), []string{"Tale", "me", "yourself", "Hall"})
}

// TestTextsTwice is 17.1: a text that stands twice in one place, or in two neighbouring ones.
func TestTextsTwice(t *testing.T) {
	for part, want := range map[string][]string{
		`room cave "a" { text "a"; }`: {"a"}, `room cave "b" { text "a"; } thing coin "a" { text "b"; }`: {"b", "a"}, `thing cave "a" { } thing coin "a" { }`: {"a"}, `thing cave "a" { text "b"; } thing coin "c" { text "b"; }`: {"a", "b", "c"},
		`room cave "a" { exit in to hall else "b"; exit out to hall else "b"; }`: {"a", "b"}, `room cave "a" { exit out to hall else "c"; exit in to hall else "b"; text "d"; }`: {"a", "d", "c", "b"}, `room cave "a" { exit up to hall else "a"; }`: {"a"},
		`on go { say "a", "a"; }`: {"a"}, `on go { say "a"; say "b", "a"; }`: {"a", "b"}, `on go { say "a"; if 1 { say "b"; } else { say "a", "b", "c"; } say "c", "d", "a"; }`: {"a", "b", "c", "d"},
		`on go { say "a"; } on go { say "b", "a"; }`: {"a", "b"}, `func f() { say "a"; } on go { say "b"; } daemon d { say "c"; } func g() { say "a", "d"; } on go { say "e"; }`: {"b", "e", "a", "d", "c"},
		`daemon d { say "a"; } func f() { say "b"; } on go { say "c"; } thing coin "d" { text "c"; }`: {"d", "c", "b", "a"}, `func f() { if 1 { say "a"; } else { say "b"; } } on go { say "b"; }`: {"b", "a"},
		`on go { say "Hall", "yourself", "me", "Tale", "a"; }`: {"a"}, `room cave "Tale" { text "me"; exit in to cave else "yourself"; } thing coin "Hall" { text "cave"; }`: {"cave"},
	} {
		checkTexts(t, part, source(head+`room hall "Hall" { } verb go = dir; `+part), append([]string{"Tale", "me", "yourself", "Hall"}, want...))
	}
}

// TestTextsPlaces is 17.1: a text in each place, the same one in each two places, and empty ones.
func TestTextsPlaces(t *testing.T) {
	s := numbered()
	all := places(&s)
	distinct := list(len(all), func(i int) string { return fmt.Sprint("t", i) })
	distinct[2] = "yourself"
	checkTexts(t, "a source with another text in each place", s, distinct)
	for i, p := range all {
		for k, q := range all {
			if i == 2 || k <= i {
				continue
			}
			before, after := *p.text, *q.text
			*p.text, *q.text = "new", "new"
			want := slices.Clone(distinct)
			want[i] = "new"
			if k == 2 {
				// The text of the player stays.
				*p.text, want[i] = "yourself", "yourself"
			}
			checkTexts(t, fmt.Sprint("a source with the same text in ", p.what, " and in ", q.what), s, slices.Delete(want, k, k+1))
			*p.text, *q.text = before, after
		}
	}
	for i, p := range all {
		if i == 2 {
			continue
		}
		before := *p.text
		*p.text = ""
		want := slices.Clone(distinct)
		want[i] = ""
		if p.optional {
			want = slices.Delete(want, i, i+1)
		}
		checkTexts(t, "a source with an empty text in "+p.what, s, want)
		*p.text = "yourself"
		want = slices.Clone(distinct)
		if i < 2 {
			want[i] = "yourself"
			want = slices.Delete(want, 2, 3)
		} else {
			want = slices.Delete(want, i, i+1)
		}
		checkTexts(t, "a source with yourself in "+p.what, s, want)
		*p.text = before
	}
}

// TestTextsEmpty is 17.1: an empty text is none where an object or an exit has it, and one elsewhere.
func TestTextsEmpty(t *testing.T) {
	for part, want := range map[string][]string{
		`thing coin "a" { text ""; }`: {"a"}, `room cave "a" { text ""; exit in to cave else ""; exit up to cave else "b"; exit out to cave; }`: {"a", "b"},
		`thing coin "" { text "a"; }`: {"", "a"}, `on go { say ""; }`: {""}, `on go { say "a", ""; } func f() { say ""; } daemon d { say "b"; }`: {"a", "", "b"}, `room cave "a" { text ""; } daemon d { if 1 { } else { say ""; } }`: {"a", ""},
	} {
		checkTexts(t, part, source(head+`room hall "Hall" { } verb go = dir; `+part), append([]string{"Tale", "me", "yourself", "Hall"}, want...))
	}
}

// TestTextsDeep is 17.1: texts within Body and Else at every depth.
func TestTextsDeep(t *testing.T) {
	for depth := range 31 {
		for _, way := range []string{"if 1 { @ }", "if 1 { } else { @ }", "while 1 { @ }", "each x@ in 1 { @ }"} {
			inner, want := `say "in";`, []string{"Tale", "me", "yourself", "Hall"}
			for i := range depth {
				outer := strings.Replace(way, "x@", fmt.Sprint("x", i%8), 1)
				if i >= 8 {
					outer = strings.Replace(way, "each x@ in 1", "while 2", 1)
				}
				inner = strings.Replace(outer, "@", inner, 1)
				inner = fmt.Sprintf(`say "a%d"; %s say "b%d";`, depth-i, inner, depth-i)
			}
			for i := range depth {
				want = append(want, fmt.Sprint("a", i+1))
			}
			want = append(want, "in")
			for i := range depth {
				want = append(want, fmt.Sprint("b", depth-i))
			}
			for _, part := range []string{"on go", "func f()", "daemon d"} {
				s := source(head + `room hall "Hall" { } verb go = dir; ` + part + "{" + inner + "}")
				checkTexts(t, part+" with "+inner, s, want)
			}
		}
	}
	both := source(head + `room hall "Hall" { } verb go = dir; on go { if 1 { say "b"; if 2 { say "c"; } else { say "d"; } say "e"; } else { say "f"; if 3 { say "g"; } else { say "h"; } say "i"; } say "j"; }`)
	checkTexts(t, "Body and Else", both, []string{"Tale", "me", "yourself", "Hall", "b", "c", "d", "e", "f", "g", "h", "i", "j"})
}

// TestTextsForms is 17.1: texts that differ in one byte are different ones, and are kept as they are.
func TestTextsForms(t *testing.T) {
	forms := []string{"a", "A", " a", "a ", "a\n", "\"a\"", "\\", "\n", "", " ", "  ", strings.Repeat("a", 1024), strings.Repeat("a", 1023), "~"}
	s := source(head + `room hall "Hall" { }`)
	for i, text := range forms {
		s.Objects = append(s.Objects, api.Object{Name: fmt.Sprint("o", i), Title: text})
		s.Daemons = []api.Func{{Name: "d", Body: append(block("say 1;"), api.Stmt{Kind: say, Args: []api.Expr{{Kind: 2, Name: text}}})}}
		checkTexts(t, fmt.Sprintf("a source with %q", text), s, append([]string{"Tale", "me", "yourself", "Hall"}, forms[:i+1]...))
	}
}

// TestTextsMany is 17.1: more texts than a story can have.
func TestTextsMany(t *testing.T) {
	s := source(head + `room hall "Hall" { } verb go = dir;`)
	want := []string{"Tale", "me", "yourself", "Hall"}
	for i := range 20 {
		r := api.Rule{Verb: "go", Phase: 2}
		for k := range 256 {
			name := fmt.Sprint(i, "/", k)
			r.Body = append(r.Body, api.Stmt{Kind: say, Args: []api.Expr{{Kind: 2, Name: name}, {Kind: 2, Name: "Hall"}, {Kind: 2, Name: name}}})
			want = append(want, name)
		}
		s.Rules = append(s.Rules, r)
		checkTexts(t, fmt.Sprint("a source with ", len(want), " texts"), s, want)
	}
	got := book(t, s)
	for i, l := range got.Routines {
		for k, s := range l {
			check(t, "a statement", s, stmt(say, 0, text(4+i*256+k), text(3), text(4+i*256+k)))
		}
	}
}
