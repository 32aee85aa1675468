package fold_test

import (
	"fmt"
	"reflect"
	"slices"
	"sync"
	"testing"

	"clew/api"
	"clew/bind"
	"clew/clause"
	"clew/decl"
	"clew/fold"
	"clew/kinds"
	"clew/lex"
	"clew/names"
	"clew/phrase"
	"clew/tree"
)

// base is a source whose names are those of the expressions and statements that tests write as text.
const base = `story "Tale" by "me" release 1 max 5 start hall;
flag wet; flag warm; prop size = 1; prop cost = -2;
global a = 0; global b = 1; global c = 2; global d = 3;
room hall "Hall" { text "A hall."; words "hall"; adjs "big"; is lit, wet; cost = 5; exit north to yard if 1 + 1 else "No."; exit up to yard; }
room yard "Yard" { exit south to hall if a; }
thing lamp "lamp" in hall { words "lamp", "light"; adjs "brass", "old"; is open; size = 3; }
verb take = "take" noun | "get" / "grab" many; verb go meta = dir | "go" dir;
before take(lamp) if 2 > 1 { stop; }
on take(lamp, yard) { say "Tale", 1 + 1; if 0 { win; } else { lose; } }
func f() { return 1 + 2; }
func g(x) { while 0 { win; } return x * (2 + 3); }
func h(x, y) { if 1 { say "A hall."; say x; } return 0 and y; }
daemon tick { start tock in 2 * 3; }
daemon tock { if a { if 0 { win; } } }
`

// whole is the source whose text is base.
func whole() api.Source {
	s, fail := decl.Read(base)
	if fail != (api.Fail{}) {
		panic(fmt.Sprint(fail))
	}
	return s
}

var (
	// named is the names of base.
	named = sync.OnceValue(func() []api.Name {
		l, fault := names.Make(whole())
		if fault != (api.Fault{}) {
			panic(fault.Name)
		}
		return l
	})
	// wholeBook is the book of base.
	wholeBook = sync.OnceValue(func() api.Book {
		s := whole()
		if fault := kinds.Check(s, named()); fault != (api.Fault{}) {
			panic(fault.Name)
		}
		return bind.Book(s, named())
	})
)

// expr is the expression with that text as that of a book, in a routine with the locals x, y and z. A minus sign ahead of digits is part of the number.
func expr(text string) api.Expr {
	l, _ := lex.All(text)
	e, used, fail := phrase.Parse(l)
	if fail != (api.Fail{}) || used+1 != len(l) {
		panic(text)
	}
	return signed(bind.Expr(named(), wholeBook().Tables.Texts, []string{"x", "y", "z"}, e))
}

// block is the statements with that text, likewise.
func block(text string) []api.Stmt {
	l, _ := lex.All("{" + text + "}")
	stmts, used, fail := clause.Block(l)
	if fail != (api.Fail{}) || used+1 != len(l) {
		panic(text)
	}
	return signedBlock(bind.Block(named(), wholeBook().Tables.Texts, []string{"x", "y", "z"}, stmts))
}

// signed is e with negative numbers in place of minus signs ahead of digits.
func signed(e api.Expr) api.Expr {
	if e.Kind == neg && e.Args[0].Kind == 1 {
		return num(-e.Args[0].Num)
	}
	for i := range e.Args {
		e.Args[i] = signed(e.Args[i])
	}
	return e
}

func signedBlock(l []api.Stmt) []api.Stmt {
	for _, s := range l {
		for i := range s.Args {
			s.Args[i] = signed(s.Args[i])
		}
		signedBlock(s.Body)
		signedBlock(s.Else)
	}
	return l
}

// joined is the statements of several lists, in new memory.
func joined(lists ...[]api.Stmt) []api.Stmt { return slices.Concat(lists...) }

// times is n times the statements with that text.
func times(n int, text string) []api.Stmt {
	return slices.Repeat(block(text), n)
}

// Expressions and statements of books, with the kinds as the document gives them.

func num(n int) api.Expr                     { return api.Expr{Kind: 1, Num: n} }
func bin(op int, a, b api.Expr) api.Expr     { return api.Expr{Kind: 6, Op: op, Args: []api.Expr{a, b}} }
func of(kind int, args ...api.Expr) api.Expr { return api.Expr{Kind: kind, Args: args} }
func call(f int, args ...api.Expr) api.Expr  { return api.Expr{Kind: 18, Num: f, Args: args} }

// stmt is a statement without statements within it.
func stmt(kind, num int, args ...api.Expr) api.Stmt {
	return api.Stmt{Kind: kind, Num: num, Args: args}
}

// when is an if.
func when(e api.Expr, body, otherwise []api.Stmt) api.Stmt {
	return api.Stmt{Kind: branch, Args: []api.Expr{e}, Body: body, Else: otherwise}
}

// loop is a while.
func loop(e api.Expr, body ...api.Stmt) api.Stmt {
	return api.Stmt{Kind: while, Args: []api.Expr{e}, Body: body}
}

const (
	neg, not, binary, parts, random, self, title, global, local = 4, 5, 6, 10, 11, 12, 13, 14, 15
	has, prop, calls, text                                      = 16, 17, 18, 19
)

const (
	or, and, eq, ne, lt, le, gt, ge, in, add, sub, mul, div, mod = 1, 2, 3, 4, 5, 6, 7, 8, 9, 10, 11, 12, 13, 14
)

const (
	say, let, assign, put, set, unset, move, remove, branch, while, each = 1, 2, 3, 4, 5, 6, 7, 8, 9, 10, 11
	give, stop, win, lose, award, start, halt, called, travel, look      = 12, 13, 14, 15, 16, 17, 18, 19, 20, 21
	lists, assignGlobal                                                  = 22, 23
)

// operators is the signs of the binary operators.
func operators() []string {
	return []string{or: "or", and: "and", eq: "==", ne: "!=", lt: "<", le: "<=", gt: ">", ge: ">=", in: "in", add: "+", sub: "-", mul: "*", div: "/", mod: "%"}
}

// same reports whether two values are equal; nil and empty lists are.
func same(a, b any) bool {
	return equal(reflect.ValueOf(a), reflect.ValueOf(b))
}

func equal(a, b reflect.Value) bool {
	switch a.Kind() {
	case reflect.Struct:
		for i := range a.NumField() {
			if !equal(a.Field(i), b.Field(i)) {
				return false
			}
		}
		return true
	case reflect.Slice:
		if a.Len() != b.Len() {
			return false
		}
		for i := range a.Len() {
			if !equal(a.Index(i), b.Index(i)) {
				return false
			}
		}
		return true
	}
	return a.Interface() == b.Interface()
}

// check checks a value of which something is told.
func check(t *testing.T, what string, got, want any) {
	t.Helper()
	if !same(got, want) {
		t.Fatalf("%s:\n%+v\nnot\n%+v", what, got, want)
	}
}

// checkExpr checks what an expression becomes; that is not changed by folding it again.
func checkExpr(t *testing.T, e, want api.Expr) {
	t.Helper()
	check(t, fmt.Sprintf("%+v becomes", e), fold.Expr(e), want)
	check(t, fmt.Sprintf("%+v, folded again", want), fold.Expr(want), want)
}

// checkBlock checks what statements of base become. Folding that again changes nothing, because no test that calls it has an if that is kept.
func checkBlock(t *testing.T, l, want []api.Stmt) {
	t.Helper()
	tables := wholeBook().Tables
	if !tree.BoundBlock(tables, l, 16) {
		t.Fatalf("these are no statements of the book: %+v", l)
	}
	got := fold.Block(l)
	check(t, fmt.Sprintf("%+v become", l), got, want)
	check(t, fmt.Sprintf("%+v, folded again", want), fold.Block(want), want)
	if !tree.BoundBlock(tables, got, 16) {
		t.Fatalf("%+v are no statements of the book any more: %+v", l, got)
	}
}

// TestExample is the example of chapter 18.
func TestExample(t *testing.T) {
	checkExpr(t, expr("1 + 2 * 3"), num(7))
	checkExpr(t, expr("1 / 0"), bin(div, num(1), num(0)))
	checkExpr(t, expr("0 and f()"), num(0))
	checkBlock(t, block("if 2 > 1 { say 1; } else { win; }"), block("say 1;"))
}

// TestBase is that what is written as text is what it is said to be.
func TestBase(t *testing.T) {
	check(t, "an expression", expr("-5 + x or g(c) * - y"), bin(or, bin(add, num(-5), api.Expr{Kind: local}), bin(mul, call(1, api.Expr{Kind: global, Num: 2}), of(neg, api.Expr{Kind: local, Num: 1}))))
	check(t, "statements", block("b = 3; if x { say -1, \"Hall\"; }"), []api.Stmt{stmt(assignGlobal, 1, num(3)), when(api.Expr{Kind: local}, []api.Stmt{stmt(say, 0, num(-1), api.Expr{Kind: text, Num: 3})}, nil)})
}
