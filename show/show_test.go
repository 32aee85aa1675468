package show_test

import (
	"reflect"
	"strconv"
	"strings"
	"testing"

	"clew/api"
	"clew/decl"
	"clew/show"
)

// The limits that the chapter names.
const (
	mostFlags   = 16
	mostProps   = 16
	mostGlobals = 64
	mostObjects = 126
	mostVerbs   = 64
	mostRules   = 512
	mostFuncs   = 64
	mostDaemons = 16
	mostParams  = 8
	mostWords   = 8
	mostLines   = 8
	mostSlots   = 8
	mostChoices = 4
	mostExits   = 12
	mostWhen    = 31    // depth of a condition
	mostDepth   = 32    // of any other expression, and of a block
	mostStmts   = 256   // of a block
	mostNumber  = 32767 // also below 0
	mostName    = 24
	mostText    = 1024
	mostSource  = 65536
	mostTokens  = 16384
)

// keywordList is the keywords of chapter 9.
const keywordList = "story by release max start flag prop global room thing in verb meta on before after if func daemon text words adjs is exit to else say let set unset move remove while each return stop win lose award halt travel look list or and not has parent child next random title here player noun second number score any many dir " + directionList

// directionList is the directions in the order of their numbers.
const directionList = "north south east west northeast northwest southeast southwest up down in out"

func number(n int) api.Expr      { return api.Expr{Kind: 1, Num: n} }
func text(s string) api.Expr     { return api.Expr{Kind: 2, Name: s} }
func named(s string) api.Expr    { return api.Expr{Kind: 3, Name: s} }
func neg(e api.Expr) api.Expr    { return api.Expr{Kind: 4, Args: []api.Expr{e}} }
func not(e api.Expr) api.Expr    { return api.Expr{Kind: 5, Args: []api.Expr{e}} }
func random(e api.Expr) api.Expr { return api.Expr{Kind: 11, Args: []api.Expr{e}} }
func self(op int) api.Expr       { return api.Expr{Kind: 12, Op: op} }
func title(e api.Expr) api.Expr  { return api.Expr{Kind: 13, Args: []api.Expr{e}} }

func bin(a api.Expr, op int, b api.Expr) api.Expr {
	return api.Expr{Kind: 6, Op: op, Args: []api.Expr{a, b}}
}
func has(e api.Expr, name string) api.Expr {
	return api.Expr{Kind: 7, Name: name, Args: []api.Expr{e}}
}
func prop(e api.Expr, name string) api.Expr {
	return api.Expr{Kind: 8, Name: name, Args: []api.Expr{e}}
}
func call(name string, args ...api.Expr) api.Expr {
	return api.Expr{Kind: 9, Name: name, Args: args}
}
func treeOf(op int, e api.Expr) api.Expr {
	return api.Expr{Kind: 10, Op: op, Args: []api.Expr{e}}
}

// stmt is a statement without blocks.
func stmt(kind int, name string, args ...api.Expr) api.Stmt {
	return api.Stmt{Kind: kind, Name: name, Args: args}
}
func ifOf(e api.Expr, body, otherwise []api.Stmt) api.Stmt {
	return api.Stmt{Kind: 9, Args: []api.Expr{e}, Body: body, Else: otherwise}
}
func whileOf(e api.Expr, body ...api.Stmt) api.Stmt {
	return api.Stmt{Kind: 10, Args: []api.Expr{e}, Body: body}
}
func eachOf(name string, e api.Expr, body ...api.Stmt) api.Stmt {
	return api.Stmt{Kind: 11, Name: name, Args: []api.Expr{e}, Body: body}
}
func block(l ...api.Stmt) []api.Stmt { return l }
func when(l ...api.Expr) []api.Expr  { return l }

// chain is wrap of wrap of .. e, n times.
func chain[T any](n int, e T, wrap func(e T) T) T {
	for range n {
		e = wrap(e)
	}
	return e
}

// deepExpr is an expression of that depth.
func deepExpr(depth int) api.Expr { return chain(depth-1, number(1), not) }

// deepBlock is a block of that depth.
func deepBlock(depth int) []api.Stmt {
	return chain(depth-1, block(stmt(13, "")), func(l []api.Stmt) []api.Stmt { return block(whileOf(number(1), l...)) })
}

// list is n elements.
func list[T any](n int, element func(i int) T) []T {
	var l []T
	for i := range n {
		l = append(l, element(i))
	}
	return l
}

// name is a name that is another one for each i.
func name(i int) string { return "n" + strconv.Itoa(i) }

func pair(i int) api.Pair             { return api.Pair{Name: name(i), Num: i} }
func room(i int) api.Object           { return api.Object{Name: name(i), Room: true} }
func thing(i int) api.Object          { return api.Object{Name: name(i)} }
func exit(i int) api.Exit             { return api.Exit{Dir: 1 + i%12, To: name(i)} }
func slot(i int) api.Slot             { return api.Slot{Kind: 2 + i%4} }
func line(i int) []api.Slot           { return []api.Slot{slot(i)} }
func verb(i int) api.Verb             { return api.Verb{Name: name(i), Lines: [][]api.Slot{line(i)}} }
func rule(i int) api.Rule             { return api.Rule{Verb: name(i), Phase: 1 + i%3} }
func function(i int) api.Func         { return api.Func{Name: name(i)} }
func words(l ...string) api.Slot      { return api.Slot{Kind: 1, Words: l} }
func lineOf(l ...api.Slot) []api.Slot { return l }

// bare is a valid source with nothing but its head.
func bare() api.Source { return api.Source{Title: "T", By: "A", Start: "a"} }

// head is the text of bare.
const head = "story \"T\" by \"A\" release 0 max 0 start a;\n"

// everyStmt is statements of all kinds, with expressions of all kinds.
func everyStmt() []api.Stmt {
	a, one, stop := named("a"), number(1), stmt(13, "")
	return block(
		stmt(1, "", text("say \"it\""), title(a), one), stmt(2, "b", neg(one)), stmt(3, "b", bin(a, 10, one)), stmt(4, "size", prop(a, "inside"), bin(one, 12, random(number(32767)))),
		stmt(5, "lit", self(1)), stmt(6, "lit", treeOf(2, self(2))), stmt(7, "", a, self(3)), stmt(8, "", call("f", one, self(4))),
		ifOf(bin(not(has(a, "lit")), 2, one), block(stop), block(ifOf(one, nil, block(stmt(14, ""))))), whileOf(bin(self(5), 9, a), stop, stop), eachOf("c", treeOf(3, a), stmt(18, "tick")),
		stmt(12, "", self(6)), stop, stmt(14, ""), stmt(15, ""), stmt(16, "", number(0)), stmt(17, "tick", one), stmt(18, "tick"), stmt(19, "", call("g")), stmt(20, "", treeOf(1, a)), stmt(21, ""), stmt(22, "", a))
}

// whole is a valid source with every part that a source can have.
func whole() api.Source {
	return api.Source{Title: "A \"Tale\"", By: "me", Start: "hall", Release: 2, Max: 10, Flags: []string{"lit", "wet", "worn"},
		Props: []api.Pair{{Name: "size", Num: -3}, {Name: "cost", Num: 5}}, Globals: []api.Pair{{Name: "count", Num: 7}, {Name: "time", Num: -1}},
		Objects: []api.Object{
			{Name: "hall", Title: "Hall", Text: "A hall.\n", Room: true, Words: []string{"hall", "room"}, Adjs: []string{"great"}, Flags: []string{"lit", "wet"}, Props: []api.Pair{{Name: "size", Num: 4}, {Name: "cost"}},
				Exits: []api.Exit{{Dir: 1, To: "yard", When: when(bin(named("count"), 8, number(2))), Else: "No."}, {Dir: 11, To: "hall"}, {Dir: 12, To: "yard", Else: "\\"}, {Dir: 5, To: "yard", When: when(has(named("lamp"), "lit"))}}},
			{Name: "lamp", Title: "lamp", Text: "Old.", In: "hall", Words: []string{"lamp", "light", ""}, Adjs: []string{"brass", "old"}, Flags: []string{"worn"}, Props: []api.Pair{{Name: "cost", Num: -7}}},
			{Name: "yard", Room: true}, {Name: "key"}},
		Verbs:   []api.Verb{{Name: "take", Lines: [][]api.Slot{{words("take", "get"), {Kind: 3}}, {words("pick"), words("up"), {Kind: 2}}, {{Kind: 5}}}}, {Name: "wait", Meta: true, Lines: [][]api.Slot{{words("wait", "z"), {Kind: 4}}}}},
		Rules:   []api.Rule{{Verb: "take", Phase: 2, Noun: "lamp", Second: "key", When: when(named("count")), Body: everyStmt()}, {Verb: "take", Phase: 3, Second: "lamp", Body: block(stmt(21, ""))}, {Verb: "wait", Phase: 1, Noun: "key"}, {Verb: "wait", Phase: 2, When: when(number(0))}},
		Funcs:   []api.Func{{Name: "f", Params: []string{"x", "y"}, Body: everyStmt()}, {Name: "g", Body: block(stmt(12, "", number(1)))}},
		Daemons: []api.Func{{Name: "tick", Body: everyStmt()}, {Name: "tock"}}}
}

// strange is a source that is not valid, in which every field of every part is set.
func strange() api.Source {
	expr := func(kind int) api.Expr {
		return api.Expr{Kind: kind, Op: 2, Num: 5, Name: "e", Args: []api.Expr{{Kind: 99, Op: -1, Num: 70000, Name: "\x00", Args: []api.Expr{{Kind: 1}}}, {Kind: 14, Num: 1}}}
	}
	inner := api.Stmt{Kind: 23, Num: 3, Name: "s", Args: []api.Expr{expr(19)}}
	body := block(api.Stmt{Kind: 77, Num: 9, Name: "t", Args: []api.Expr{expr(1), expr(3)}, Body: block(inner, inner), Else: block(inner)}, api.Stmt{})
	object := api.Object{Name: "A", Title: "\t", In: "in", Text: "\x7f", Room: true, Words: []string{"\xff", "x"}, Adjs: []string{"y", "\t"}, Flags: []string{"", "Z"}, Props: []api.Pair{{Name: "p", Num: -32768}, {Name: "", Num: 40000}},
		Exits: []api.Exit{{Dir: 13, To: "", Else: "\t", When: when(expr(2), expr(13))}, {Dir: -1, To: "x", Else: "e", When: when(expr(1))}}}
	other := object
	other.Room = false
	verb := api.Verb{Name: "Verb", Meta: true, Lines: [][]api.Slot{{{Kind: 2, Words: []string{"a", "b"}}, {Kind: 9, Words: []string{"c"}}}, {}, {{Kind: 1}}}}
	rule := api.Rule{Verb: "on", Phase: 4, Noun: "N", Second: "S", When: when(expr(2), expr(13)), Body: body}
	function := api.Func{Name: "func", Params: []string{"p", "p", ""}, Body: body}
	return api.Source{Title: "\t", By: "\xff", Start: "start", Release: -1, Max: 99999, Flags: []string{"lit", "lit", ""}, Props: []api.Pair{{Name: "P", Num: 1 << 40}}, Globals: []api.Pair{{Name: "", Num: -1 << 40}},
		Objects: []api.Object{object, other}, Verbs: []api.Verb{verb, {}}, Rules: []api.Rule{rule, {}}, Funcs: []api.Func{function, {}}, Daemons: []api.Func{function, {}}}
}

// cloned is x in new memory; behind the elements of each list there is room for others.
func cloned[T any](x T) T {
	return copied(reflect.ValueOf(x)).Interface().(T)
}

func copied(v reflect.Value) reflect.Value {
	c := reflect.New(v.Type()).Elem()
	switch v.Kind() {
	case reflect.Struct:
		for i := range v.NumField() {
			c.Field(i).Set(copied(v.Field(i)))
		}
	case reflect.Slice:
		if !v.IsNil() {
			c.Set(reflect.MakeSlice(v.Type(), v.Len(), v.Len()+2))
		}
		for i := range v.Len() {
			c.Index(i).Set(copied(v.Index(i)))
		}
	default:
		c.Set(v)
	}
	return c
}

// equal reports whether all fields of two values are equal; nil and empty lists are.
func equal[T any](a, b T) bool {
	return equalValues(reflect.ValueOf(a), reflect.ValueOf(b))
}

func equalValues(a, b reflect.Value) bool {
	switch a.Kind() {
	case reflect.Struct:
		for i := range a.NumField() {
			if !equalValues(a.Field(i), b.Field(i)) {
				return false
			}
		}
		return true
	case reflect.Slice:
		if a.Len() != b.Len() {
			return false
		}
		for i := range a.Len() {
			if !equalValues(a.Index(i), b.Index(i)) {
				return false
			}
		}
		return true
	}
	return a.Interface() == b.Interface()
}

// unchanged reports whether two values are equal, also in whether a list is nil and in what stands behind the elements of lists.
func unchanged(a, b reflect.Value) bool {
	switch a.Kind() {
	case reflect.Struct:
		for i := range a.NumField() {
			if !unchanged(a.Field(i), b.Field(i)) {
				return false
			}
		}
		return true
	case reflect.Slice:
		if a.IsNil() != b.IsNil() || a.Len() != b.Len() || a.Cap() != b.Cap() {
			return false
		}
		for i := range a.Cap() {
			if !unchanged(a.Slice(0, a.Cap()).Index(i), b.Slice(0, b.Cap()).Index(i)) {
				return false
			}
		}
		return true
	}
	return a.Interface() == b.Interface()
}

// shortened is s as far as it is told where a test fails.
func shortened(s string) string {
	return s[:min(len(s), 3000)]
}

// checkRight checks what Right tells about s.
func checkRight(t *testing.T, what string, s api.Source, want bool) {
	t.Helper()
	if got := show.Right(s); got != want {
		t.Fatalf("%s: Right = %v for\n%s", what, got, shortened(show.Source(s)))
	}
}

// checkRead checks that s is valid, and that its text is read as s, which has the same text again.
func checkRead(t *testing.T, s api.Source) {
	t.Helper()
	src := show.Source(s)
	got, fail := decl.Read(src)
	if fail != (api.Fail{}) || !equal(got, s) {
		t.Fatalf("it is read with %+v as\n%+v, not as\n%+v, from\n%s", fail, got, s, shortened(src))
	}
	if !show.Right(s) || !show.Right(got) || !show.Same(got, s) || !show.Same(s, got) {
		t.Fatalf("what is read is not valid or not the same:\n%s", shortened(src))
	}
	if again := show.Source(got); again != src {
		t.Fatalf("%s\nis printed again as\n%s", shortened(src), shortened(again))
	}
}

// checkLines checks the text of s behind its head, and that it is read as s.
func checkLines(t *testing.T, s api.Source, lines ...string) {
	t.Helper()
	want := head
	for _, l := range lines {
		want += l + "\n"
	}
	checkText(t, s, want)
}

// checkText checks the text of s, and that it is read as s.
func checkText(t *testing.T, s api.Source, want string) {
	t.Helper()
	if got := show.Source(s); got != want {
		t.Fatalf("the text is\n%s\nnot\n%s", shortened(got), shortened(want))
	}
	checkRead(t, s)
}

// changed is s with a change.
func changed(s api.Source, change func(s *api.Source)) api.Source {
	c := cloned(s)
	change(&c)
	return c
}

// keywords is all keywords.
func keywords() []string { return strings.Fields(keywordList) }
