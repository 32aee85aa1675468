package kinds_test

import (
	"reflect"
	"slices"
	"strings"
	"sync"
	"testing"

	"clew/api"
	"clew/clause"
	"clew/decl"
	"clew/kinds"
	"clew/lex"
	"clew/names"
	"clew/phrase"
	"clew/show"
)

// The numbers of api, as the document gives them.
const (
	partStory, partObject, partVerb, partRule, partFunc, partDaemon = 1, 5, 6, 7, 8, 9
	flagName, propName, globalName, thingName, verbName             = 1, 2, 3, 4, 5
	funcName, daemonName                                            = 6, 7
	mostLocals, mostThings                                          = 16, 126
)

// base is the text of a source without a fault, with at least three elements in each part and, in some element, in each of its lists.
const base = `story "Tale" by "me" release 1 max 5 start hall;
flag wet, worn, warm;
prop size = 1; prop cost = 2; prop age = 3;
global count = 0; global time = 3; global mood = -1;
room hall "Hall" {
	text "A hall."; words "hall", "room", "floor"; adjs "big", "old", "great"; is lit, wet, warm; size = 1; cost = 2; age = 3;
	exit north to yard if count > 1 else "No."; exit in to cave; exit out to hall if lamp has lit; exit up to yard if twice(mood) == key.age;
}
thing chest "chest" in hall { words "chest"; is box, open; size = 9; }
room cave "Cave" { words "cave"; exit south to hall; exit down to cave; exit east to yard; }
thing lamp "lamp" in chest { text "Brass."; words "lamp", "light", "lantern"; adjs "brass", "old", "o'neil"; is worn, hidden, warm; cost = 1; age = 2; size = 3; }
thing key "key" in lamp { words "key", "7-a"; cost = 5; cost = 6; }
thing coin "coin" { words "coin"; }
room yard "Yard" { words "yard", "lawn", "grass"; adjs "green", "wide", "front"; is hidden, box, open; age = 1; size = 2; cost = 3; exit west to hall; exit northeast to cave if time; exit southwest to yard; }
verb take = "take" / "get" / "grab" many | "pick" "up" noun | "lift" noun "off" / "from" many;
verb wait meta = "wait" | "z" / "rest" number;
verb put = "put" noun "in" / "into" noun | "lay" "down" noun;
verb go = dir | "go" / "walk" dir | "run" / "hurry" / "rush" dir number;
before take(lamp, chest) if lamp in chest { stop; }
on take(lamp) { let x = twice(count); set lamp is warm; if x > 3 { let y = x; count = y; stop; } say "Taken: ", title(noun), x; }
after take(any, key) if count { start tick in 3; halt clock; each x in hall { add(x, 1, time); } each x in cave { list x; } }
on wait { lamp.cost = lamp.cost + 1; unset key is wet; zero(); }
on go(yard) { travel number; look; }
after go { move lamp to child(hall); remove coin; award 2; win; lose; }
func twice(x) { return x * 2; }
func add(a, b, c) { let d = a + b; while d { d = d - 1; } return d + c; }
func zero() { time = 0; }
func all8(p1, p2, p3, p4, p5, p6, p7, p8) { p8 = p1; return p7; }
func idle(u, v, w) { u = v; }
daemon tick { let x = random(6); say x; }
daemon tock { halt tick; }
daemon clock { time = time + 1; if time > 10 { start tock in time; time = 0; } else { mood = -1; } }
`

// whole is the source whose text is base.
func whole() api.Source {
	s, fail := decl.Read(base)
	if fail != (api.Fail{}) || !show.Right(s) {
		panic(fail)
	}
	return s
}

// made is the names of a source.
func made(s api.Source) []api.Name {
	l, fault := names.Make(s)
	if fault != (api.Fault{}) {
		panic(fault.Name)
	}
	return l
}

// shared is the source whose text is base, and its names, for tests that change neither.
var shared = sync.OnceValues(func() (api.Source, []api.Name) {
	s := whole()
	return s, made(s)
})

// expr is the expression with that text.
func expr(text string) api.Expr {
	l, _ := lex.All(text)
	e, used, fail := phrase.Parse(l)
	if fail != (api.Fail{}) || used+1 != len(l) {
		panic(text)
	}
	return e
}

// block is the statements with that text.
func block(text string) []api.Stmt {
	l, _ := lex.All("{" + text + "}")
	stmts, used, fail := clause.Block(l)
	if fail != (api.Fail{}) || used+1 != len(l) {
		panic(text)
	}
	return stmts
}

// list is n elements.
func list[T any](n int, element func(i int) T) []T {
	var l []T
	for i := range n {
		l = append(l, element(i))
	}
	return l
}

// checkExpr checks what Expr says about an expression.
func checkExpr(t *testing.T, locals []string, e api.Expr, err api.Errno, name string) {
	t.Helper()
	s, n := shared()
	if gotErr, gotName := kinds.Expr(n, s, locals, e); gotErr != err || gotName != name {
		t.Fatalf("%s with the locals %v: %v and %q, not %v and %q", phrase.Print(e), locals, gotErr, gotName, err, name)
	}
}

// checkBlock checks what Block says about statements.
func checkBlock(t *testing.T, where int, locals []string, l []api.Stmt, err api.Errno, name string) {
	t.Helper()
	s, n := shared()
	if gotErr, gotName := kinds.Block(n, s, locals, where, l); gotErr != err || gotName != name {
		t.Fatalf("with the locals %v in part %d: %v and %q, not %v and %q for\n%s", locals, where, gotErr, gotName, err, name, clause.PrintBlock(l, 0))
	}
}

// checkFault checks what Check says about a source, and 16.5 of that.
func checkFault(t *testing.T, what string, s api.Source, want api.Fault) {
	t.Helper()
	got := kinds.Check(s, made(s))
	if got != want {
		t.Fatalf("%s: %+v, not %+v for\n%s", what, got, want, show.Source(s))
	}
	checkConsequences(t, s, got)
}

// checkConsequences checks 16.5 for a source with that fault.
func checkConsequences(t *testing.T, s api.Source, fault api.Fault) {
	t.Helper()
	nameless := fault.Err == api.OK || fault.Err == api.ErrState && fault.Part >= partRule
	if nameless && fault.Name != "" || !nameless && !slices.Contains(textsOf(reflect.ValueOf(s)), fault.Name) {
		t.Fatalf("the name of %+v does not occur in\n%s", fault, show.Source(s))
	}
	isStart := func(o api.Object) bool { return o.Room && o.Name == s.Start }
	if fault == (api.Fault{}) && !slices.ContainsFunc(s.Objects, isStart) {
		t.Fatalf("the start is no room in\n%s", show.Source(s))
	}
}

// textsOf is all texts in a value.
func textsOf(v reflect.Value) []string {
	var l []string
	switch v.Kind() {
	case reflect.Struct:
		for i := range v.NumField() {
			l = append(l, textsOf(v.Field(i))...)
		}
	case reflect.Slice:
		for i := range v.Len() {
			l = append(l, textsOf(v.Index(i))...)
		}
	case reflect.String:
		l = append(l, v.String())
	}
	return l
}

// TestExample is the example of chapter 16.
func TestExample(t *testing.T) {
	checkExpr(t, nil, expr("x"), api.ErrNone, "x")
	checkExpr(t, nil, expr("wet"), api.ErrKind, "wet")
	checkBlock(t, partRule, nil, block("let a = 1; let a = 2;"), api.ErrTwice, "a")
	checkBlock(t, partFunc, nil, block("stop;"), api.ErrState, "")
	if got := kinds.Locals(block("each c in 1 { let a = 1; }")); got != 3 {
		t.Fatal("Locals of an each that contains a let is", got)
	}
}

// TestLocals is 16.3: one for each let, and two for each each.
func TestLocals(t *testing.T) {
	for text, want := range map[string]int{
		"": 0, "stop;": 0, "x = 1; lamp.size = x; if x { } while x { }": 0,
		"let a = 1;": 1, "let a = 1; let b = 2; let c = 3;": 3, "let a = 1; let a = 1;": 2,
		"each a in 1 { }": 2, "each a in 1 { } each b in 1 { }": 4, "each a in 1 { each b in a { } }": 4,
		"each a in 1 { let b = 1; }": 3, "each a in 1 { let b = 1; let c = 2; } let d = 3;": 5,
		"if 1 { let a = 1; }": 1, "if 1 { } else { let a = 1; }": 1, "if 1 { let a = 1; } else { each b in 1 { } }": 3,
		"if 1 { } else if 2 { let a = 1; } else { let b = 1; }": 2, "while 1 { let a = 1; each b in 1 { let c = 1; } }": 4,
		"if 1 { each a in 1 { if 2 { } else { let b = 1; while 3 { let c = 2; } } } } let d = 1;": 5,
	} {
		if got := kinds.Locals(block(text)); got != want {
			t.Errorf("%s creates %d locals, not %d", text, got, want)
		}
	}
	many := block(strings.Repeat("let a = 1; each b in 1 { let c = 1; } ", 100))
	if got := kinds.Locals(many); got != 400 {
		t.Error("there are", got, "locals, not 400")
	}
	deep := block("let a = 1;")
	for range 1000 {
		deep = []api.Stmt{{Kind: 9, Else: []api.Stmt{{Kind: 11, Name: "b", Body: deep}}}}
	}
	if got := kinds.Locals(deep); got != 2001 || kinds.Locals(nil) != 0 || kinds.Locals([]api.Stmt{}) != 0 {
		t.Error("there are", got, "locals within one another")
	}
}
