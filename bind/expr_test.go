package bind_test

import (
	"fmt"
	"slices"
	"testing"

	"clew/api"
	"clew/bind"
	"clew/names"
	"clew/phrase"
)

// checkExpr checks what Expr makes of an expression with the names and the texts of base.
func checkExpr(t *testing.T, locals []string, e, want api.Expr) {
	t.Helper()
	got := bind.Expr(made(whole()), textsOfBase(), locals, e)
	check(t, fmt.Sprintf("%s with the locals %v", phrase.Print(e), locals), got, want)
}

// bound is an expression of a source, and what it is in a book.
type bound struct {
	text string
	want api.Expr
}

// boundLocals is the locals of boundExprs; some are called like a flag, a global, a thing, a verb, a func and a daemon.
func boundLocals() []string {
	return []string{"x", "y", "warm", "mood", "coin", "wait", "zero", "tock", "z"}
}

// boundExprs is expressions of each kind with the names of base.
func boundExprs() []bound {
	return []bound{
		{"0", num(0)}, {"1", num(1)}, {"32767", num(32767)}, {"here", self(1)}, {"player", self(2)}, {"noun", self(3)}, {"second", self(4)}, {"number", self(5)}, {"score", self(6)},
		{"count", global(0)}, {"time", global(1)}, {"hall", num(2)}, {"chest", num(3)}, {"cave", num(4)}, {"lamp", num(5)}, {"key", num(6)}, {"yard", num(8)},
		{"x", local(0)}, {"y", local(1)}, {"warm", local(2)}, {"mood", local(3)}, {"coin", local(4)}, {"wait", local(5)}, {"zero", local(6)}, {"tock", local(7)}, {"z", local(8)},
		{"-1", of(neg, num(1))}, {"-x", of(neg, local(0))}, {"not count", of(not, global(0))}, {"not lamp", of(not, num(5))}, {"random(6)", of(random, num(6))}, {"random(time)", of(random, global(1))},
		{"parent(lamp)", tree(1, num(5))}, {"child(x)", tree(2, local(0))}, {"next(count)", tree(3, global(0))},
		{"1 or 2", bin(1, num(1), num(2))}, {"x and y", bin(2, local(0), local(1))}, {"time == x", bin(3, global(1), local(0))}, {"x != time", bin(4, local(0), global(1))}, {"1 < z", bin(5, num(1), local(8))}, {"1 <= 2", bin(6, num(1), num(2))}, {"1 > 2", bin(7, num(1), num(2))},
		{"1 >= 2", bin(8, num(1), num(2))}, {"lamp in hall", bin(9, num(5), num(2))}, {"1 + 2", bin(10, num(1), num(2))}, {"y - x", bin(11, local(1), local(0))}, {"1 * 2", bin(12, num(1), num(2))}, {"1 / 2", bin(13, num(1), num(2))}, {"1 % 2", bin(14, num(1), num(2))},
		{"lamp has lit", has(num(5), 0)}, {"lamp has open", has(num(5), 1)}, {"lamp has box", has(num(5), 2)}, {"lamp has hidden", has(num(5), 3)}, {"x has wet", has(local(0), 4)}, {"count has worn", has(global(0), 5)}, {"lamp has warm", has(num(5), 6)},
		{"lamp.size", prop(num(5), 0)}, {"x.cost", prop(local(0), 1)}, {"time.age", prop(global(1), 2)}, {"parent(key).size", prop(tree(1, num(6)), 0)}, {"x.cost.age", prop(prop(local(0), 1), 2)},
		{"twice(1)", call(0, num(1))}, {"add(x, time, lamp)", call(1, local(0), global(1), num(5))}, {"zero()", call(2)}, {"twice(twice(zero()))", call(0, call(0, call(2)))}, {"add(1, add(2, 3, 4), 5)", call(1, num(1), call(1, num(2), num(3), num(4)), num(5))},
		{"1 + 2 * x == -count", bin(3, bin(10, num(1), bin(12, num(2), local(0))), of(neg, global(0)))}, {"lamp in hall and not (x or lamp has lit)", bin(2, bin(9, num(5), num(2)), of(not, bin(1, local(0), has(num(5), 0))))},
	}
}

// TestExprKinds is 17.3: each kind of expression, alone.
func TestExprKinds(t *testing.T) {
	for _, b := range boundExprs() {
		checkExpr(t, boundLocals(), expr(b.text), b.want)
	}
	for _, n := range []int{-1, -32768, 40000, 0} {
		checkExpr(t, nil, num(n), num(n))
	}
	for i, name := range textsOfBase() {
		checkExpr(t, nil, api.Expr{Kind: 2, Name: name}, text(i))
		checkExpr(t, []string{name}, api.Expr{Kind: 2, Name: name}, text(i))
	}
	for _, b := range boundExprs() {
		checkExpr(t, boundLocals(), of(title, expr(b.text)), of(title, b.want))
	}
}

// surroundings is what an expression can be within, in a source and in a book.
type surroundings struct {
	source, book func(e api.Expr) api.Expr
}

// allSurroundings is each kind of expression with Args, and each place in one.
func allSurroundings() []surroundings {
	var l []surroundings
	same := func(put func(e api.Expr) api.Expr) { l = append(l, surroundings{put, put}) }
	for _, kind := range []int{neg, not, random, title} {
		same(func(e api.Expr) api.Expr { return of(kind, e) })
	}
	for op := 1; op <= 3; op++ {
		same(func(e api.Expr) api.Expr { return tree(op, e) })
	}
	for op := 1; op <= 14; op++ {
		same(func(e api.Expr) api.Expr { return bin(op, e, num(op)) })
		same(func(e api.Expr) api.Expr { return bin(op, self(op%6+1), e) })
	}
	named := func(kind int, name string, args ...api.Expr) api.Expr {
		return api.Expr{Kind: kind, Name: name, Args: args}
	}
	return append(l,
		surroundings{func(e api.Expr) api.Expr { return bin(10, e, expr("count")) }, func(e api.Expr) api.Expr { return bin(10, e, global(0)) }},
		surroundings{func(e api.Expr) api.Expr { return named(7, "worn", e) }, func(e api.Expr) api.Expr { return has(e, 5) }},
		surroundings{func(e api.Expr) api.Expr { return named(8, "age", e) }, func(e api.Expr) api.Expr { return prop(e, 2) }},
		surroundings{func(e api.Expr) api.Expr { return named(9, "add", e, expr("lamp"), e) }, func(e api.Expr) api.Expr { return call(1, e, num(5), e) }},
	)
}

// TestExprWithin is 17.3: each kind of expression within each kind of expression, and that within each of them.
func TestExprWithin(t *testing.T) {
	n, texts := made(whole()), textsOfBase()
	for _, b := range boundExprs() {
		for _, inner := range allSurroundings() {
			e, want := inner.source(expr(b.text)), inner.book(b.want)
			check(t, b.text+" within another expression", bind.Expr(n, texts, boundLocals(), e), want)
			for _, outer := range allSurroundings() {
				check(t, b.text+" within two expressions", bind.Expr(n, texts, boundLocals(), outer.source(e)), outer.book(want))
			}
		}
	}
}

// TestExprLocals is 17.3: a name is a local if it occurs in locals, and then the last one of that name.
func TestExprLocals(t *testing.T) {
	for _, c := range []struct {
		locals []string
		want   int
	}{
		{[]string{"a"}, 0}, {[]string{"b", "a"}, 1}, {[]string{"a", "b"}, 0}, {[]string{"a", "a"}, 1}, {[]string{"a", "b", "a"}, 2}, {[]string{"a", "a", "b"}, 1}, {[]string{"a", "b", "a", "b", "b"}, 2}, {[]string{"a", "a", "a", "a", "a"}, 4}, {[]string{"", "aa", "a", "A", "a ", ""}, 2},
		{slices.Repeat([]string{"b", "a"}, 12), 23}, {append(slices.Repeat([]string{"a"}, 23), "b"), 22}, {append(slices.Repeat([]string{"b"}, 99), "a", "c"), 99},
	} {
		for _, name := range []string{"a", "count", "lamp", "warm", "size", "go", "twice", "tick"} {
			locals := slices.Clone(c.locals)
			for i, l := range locals {
				if l == "a" {
					locals[i] = name
				}
			}
			checkExpr(t, locals, expr(name), local(c.want))
			checkExpr(t, locals, expr("1 + "+name), bin(10, num(1), local(c.want)))
			checkExpr(t, locals, expr("mood + hall"), bin(10, global(2), num(2)))
		}
	}
	for _, locals := range [][]string{nil, {}, {"counts"}, {"coun", "lam", "lamps"}} {
		checkExpr(t, locals, expr("count"), global(0))
		checkExpr(t, locals, expr("lamp"), num(5))
	}
	// Only a name by itself is that of a local.
	all := []string{"worn", "size", "twice", "me", "lamp", "count", "Tale"}
	checkExpr(t, all, expr("twice(lamp.size) + (lamp has worn)"), bin(10, call(0, prop(local(4), 0)), has(local(4), 5)))
	checkExpr(t, all, api.Expr{Kind: 2, Name: "me"}, text(1))
}

// TestExprNumbers is 17.3: the numbers of names of each kind, from the first to the last.
func TestExprNumbers(t *testing.T) {
	s := api.Source{Flags: named("f", 12), Props: pairs("p", 16), Globals: pairs("g", 64)}
	s.Objects = list(126, func(i int) api.Object { return api.Object{Name: fmt.Sprint("o", 999-i)} })
	s.Funcs = list(64, func(i int) api.Func { return api.Func{Name: fmt.Sprint("u", 999-i)} })
	n, fault := names.Make(s)
	if fault != (api.Fault{}) {
		t.Fatal(fault)
	}
	is := func(text string, want api.Expr) {
		t.Helper()
		check(t, text, bind.Expr(n, nil, nil, expr(text)), want)
	}
	for i := range 126 {
		is(fmt.Sprint("o", 999-i), num(2+i))
	}
	for i := range 64 {
		is(fmt.Sprint("g", 999-i), global(i))
		is(fmt.Sprint("u", 999-i, "()"), call(i))
	}
	for i := range 16 {
		is(fmt.Sprint("1 .p", 999-i), prop(num(1), i))
	}
	for i := range 12 {
		is(fmt.Sprint("1 has f", 999-i), has(num(1), 4+i))
	}
	many := list(4096, func(i int) string { return fmt.Sprint("text ", i) })
	for _, i := range []int{0, 1, 2, 100, 4094, 4095} {
		check(t, many[i], bind.Expr(n, many, nil, api.Expr{Kind: 2, Name: many[i]}), text(i))
	}
}

// named is names that begin with a letter, and are sorted the other way round.
func named(letter string, count int) []string {
	return list(count, func(i int) string { return fmt.Sprint(letter, 999-i) })
}

// pairs is as many of those names with numbers.
func pairs(letter string, count int) []api.Pair {
	return list(count, func(i int) api.Pair { return api.Pair{Name: named(letter, count)[i], Num: i} })
}

// TestExprTexts is 17.3: a text is its number among the texts that are given.
func TestExprTexts(t *testing.T) {
	n := made(whole())
	for _, order := range permutations(4) {
		texts := list(4, func(i int) string { return []string{"", "a", "A", "lamp"}[order[i]] })
		for i, s := range texts {
			check(t, fmt.Sprintf("%q", s), bind.Expr(n, texts, []string{"lamp"}, api.Expr{Kind: 2, Name: s}), text(i))
		}
	}
}
