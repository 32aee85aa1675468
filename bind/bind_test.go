package bind_test

import (
	"fmt"
	"reflect"
	"slices"
	"strings"
	"testing"

	"clew/api"
	"clew/bind"
	"clew/clause"
	"clew/decl"
	"clew/kinds"
	"clew/lex"
	"clew/names"
	"clew/phrase"
	"clew/show"
)

// head is the beginning of the texts of sources whose texts are Tale, me, yourself, and then those of what follows.
const head = `story "Tale" by "me" release 1 max 5 start hall; `

// source is the source with that text, without a fault.
func source(text string) api.Source {
	s, fail := decl.Read(text)
	if fail != (api.Fail{}) {
		panic(fmt.Sprint(fail, text))
	}
	return s
}

// made is the names of a source.
func made(s api.Source) []api.Name {
	l, fault := names.Make(s)
	if fault != (api.Fault{}) {
		panic(fault.Name)
	}
	return l
}

// expr is the expression with that text.
func expr(text string) api.Expr {
	l, _ := lex.All(text)
	e, used, fail := phrase.Parse(l)
	if fail != (api.Fail{}) || used+1 != len(l) {
		panic(text)
	}
	return e
}

// block is the statements with that text.
func block(text string) []api.Stmt {
	l, _ := lex.All("{" + text + "}")
	stmts, used, fail := clause.Block(l)
	if fail != (api.Fail{}) || used+1 != len(l) {
		panic(text)
	}
	return stmts
}

// book is the book of a source, which must be without a fault.
func book(t *testing.T, s api.Source) api.Book {
	t.Helper()
	n := made(s)
	if fault := kinds.Check(s, n); fault != (api.Fault{}) || !show.Right(s) {
		t.Fatalf("this source has the fault %+v:\n%s", fault, show.Source(s))
	}
	return bind.Book(s, n)
}

// list is n elements.
func list[T any](n int, element func(i int) T) []T {
	var l []T
	for i := range n {
		l = append(l, element(i))
	}
	return l
}

// same reports whether two values are equal; nil and empty lists are.
func same(a, b any) bool {
	return equal(reflect.ValueOf(a), reflect.ValueOf(b))
}

func equal(a, b reflect.Value) bool {
	switch a.Kind() {
	case reflect.Struct:
		for i := range a.NumField() {
			if !equal(a.Field(i), b.Field(i)) {
				return false
			}
		}
		return true
	case reflect.Slice:
		if a.Len() != b.Len() {
			return false
		}
		for i := range a.Len() {
			if !equal(a.Index(i), b.Index(i)) {
				return false
			}
		}
		return true
	}
	return a.Interface() == b.Interface()
}

// check checks a value of which something is told.
func check(t *testing.T, what string, got, want any) {
	t.Helper()
	if !same(got, want) {
		t.Fatalf("%s:\n%+v\nnot\n%+v", what, got, want)
	}
}

// Expressions of books.

func num(n int) api.Expr                     { return api.Expr{Kind: 1, Num: n} }
func bin(op int, a, b api.Expr) api.Expr     { return api.Expr{Kind: 6, Op: op, Args: []api.Expr{a, b}} }
func self(op int) api.Expr                   { return api.Expr{Kind: 12, Op: op} }
func global(n int) api.Expr                  { return api.Expr{Kind: 14, Num: n} }
func local(n int) api.Expr                   { return api.Expr{Kind: 15, Num: n} }
func has(e api.Expr, flag int) api.Expr      { return api.Expr{Kind: 16, Num: flag, Args: []api.Expr{e}} }
func prop(e api.Expr, prop int) api.Expr     { return api.Expr{Kind: 17, Num: prop, Args: []api.Expr{e}} }
func call(f int, args ...api.Expr) api.Expr  { return api.Expr{Kind: 18, Num: f, Args: args} }
func text(n int) api.Expr                    { return api.Expr{Kind: 19, Num: n} }
func tree(op int, e api.Expr) api.Expr       { return api.Expr{Kind: 10, Op: op, Args: []api.Expr{e}} }
func of(kind int, args ...api.Expr) api.Expr { return api.Expr{Kind: kind, Args: args} }

// The kinds of expressions that have nothing but Args.
const (
	neg, not, random, title = 4, 5, 11, 13
)

// stmt is a statement of a book without statements within it.
func stmt(kind, num int, args ...api.Expr) api.Stmt {
	return api.Stmt{Kind: kind, Num: num, Args: args}
}

// when is an if of a book.
func when(e api.Expr, body, otherwise []api.Stmt) api.Stmt {
	return api.Stmt{Kind: branch, Args: []api.Expr{e}, Body: body, Else: otherwise}
}

// loop is a while or an each of a book.
func loop(kind, num int, e api.Expr, body ...api.Stmt) api.Stmt {
	return api.Stmt{Kind: kind, Num: num, Args: []api.Expr{e}, Body: body}
}

// The kinds of statements, as the document gives them.
const (
	say, let, assign, put, set, unset, move, remove, branch, while, each = 1, 2, 3, 4, 5, 6, 7, 8, 9, 10, 11
	give, stop, win, lose, award, start, halt, calls, travel, look       = 12, 13, 14, 15, 16, 17, 18, 19, 20, 21
	lists, assignGlobal                                                  = 22, 23
)

// base is a source without a fault, with several elements in each part and, in some element, in each of its lists.
const base = `story "Tale" by "me" release 7 max 50 start yard;
flag wet, worn, warm;
prop size = 1; prop cost = -2; prop age = 3;
global count = 0; global time = 30; global mood = -1;
room hall "Hall" {
	text "A hall."; words "hall", "room"; adjs "big", "old"; is lit, wet, warm; size = 4; cost = 5; age = 6;
	exit up to yard if twice(mood) == key.age else "No."; exit north to yard; exit in to cave if lamp has lit; exit east to hall else "me";
}
thing chest "chest" in hall { words "chest"; is box, open; age = 9; }
room cave "Cave" { exit down to hall if 1; }
thing lamp "lamp" in chest { text "Brass."; words "lamp", "light", "lantern"; adjs "brass"; is hidden, worn; cost = 1; cost = 2; size = 7; cost = 3; }
thing key "yourself" in lamp { words "key"; }
thing coin "coin" { }
room yard "Yard" { text "Hall"; }
verb take = "take" / "get" / "grab" many | "pick" "up" noun | "lift" noun "off" / "from" many;
verb wait meta = "wait" | "z" / "rest" number;
verb go = dir | "go" / "walk" dir;
before take(lamp, chest) if lamp in chest { stop; }
on wait { let x = count; if x { let y = x; say y, "Brass."; } else { each z in x { say z, title(key), "Gone."; } } let w = x; count = w; x = 2; }
after go(any, yard) if here == yard { start tock in time; halt tick; }
on take(coin) { say "Tale", "Taken."; }
func twice(x) { return x * 2; }
func add(a, b, c) { let d = a + b; each e in d { d = d + e; } return d + c; }
func zero() { time = 0; lamp.cost = add(1, twice(2), hall); say "Zero."; }
daemon tick { set lamp is worn; unset key is lit; say "Tick."; }
daemon tock { while count { let k = count; count = k - 1; } }
`

// whole is the source whose text is base.
func whole() api.Source { return source(base) }

// textsOfBase is the texts of base.
func textsOfBase() []string {
	return []string{"Tale", "me", "yourself", "Hall", "A hall.", "No.", "chest", "Cave", "lamp", "Brass.", "coin", "Yard", "Gone.", "Taken.", "Zero.", "Tick."}
}

// changed is the source whose text is base, after a change.
func changed(change func(s *api.Source)) api.Source {
	s := whole()
	change(&s)
	return s
}

// TestExample is the example of chapter 17.
func TestExample(t *testing.T) {
	s := source(`story "Tale" by "Tale" release 1 max 5 start hall; room hall "Hall" { }`)
	check(t, "the texts", bind.Texts(s), []string{"Tale", "yourself", "Hall"})
	got := bind.Block(made(s), bind.Texts(s), nil, block("let a = 1; if a { let b = 2; } let c = a;"))
	check(t, "the block", got, []api.Stmt{stmt(let, 0, num(1)), when(local(0), []api.Stmt{stmt(let, 1, num(2))}, nil), stmt(let, 2, local(0))})
}

// TestBase is that base has what it is said to have.
func TestBase(t *testing.T) {
	s := whole()
	if fault := kinds.Check(s, made(s)); fault != (api.Fault{}) || !show.Right(s) {
		t.Fatal(fault)
	}
	check(t, "the texts", bind.Texts(s), textsOfBase())
}

// slots is a line with a word for each W and other slots for N, M, # and D.
func slots(kinds string) []api.Slot {
	return list(len(kinds), func(i int) api.Slot {
		kind := 1 + strings.IndexByte("WNM#D", kinds[i])
		if kind == 1 {
			return api.Slot{Kind: 1, Words: []string{"w" + fmt.Sprint(i)}}
		}
		return api.Slot{Kind: kind}
	})
}

// thingNamed is the number of the object with that name.
func thingNamed(s api.Source, name string) int {
	return 2 + slices.IndexFunc(s.Objects, func(o api.Object) bool { return o.Name == name })
}
