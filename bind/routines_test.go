package bind_test

import (
	"fmt"
	"slices"
	"strings"
	"testing"

	"clew/api"
	"clew/kinds"
)

// world is what sources of this file begin with: things 2 to 5 and verbs 0 to 2.
const world = head + `room hall "Hall" { } thing lamp "lamp" { } thing key "key" { } room yard "Yard" { } verb wait = "wait"; verb take = "take" noun noun; verb go = dir; `

// TestBookDeeds is 17.2: rules in each Phase, with and without When, Noun and Second.
func TestBookDeeds(t *testing.T) {
	for rule, want := range map[string]api.Deed{
		"before wait { }": {Verb: 0, Phase: 1, Noun: -1, Second: -1, When: -1, Body: 0}, "on wait { }": {Verb: 0, Phase: 2, Noun: -1, Second: -1, When: -1, Body: 0}, "after wait { }": {Verb: 0, Phase: 3, Noun: -1, Second: -1, When: -1, Body: 0},
		"on take { }": {Verb: 1, Phase: 2, Noun: -1, Second: -1, When: -1, Body: 0}, "before go { stop; }": {Verb: 2, Phase: 1, Noun: -1, Second: -1, When: -1, Body: 0},
		"on take(lamp) { }": {Verb: 1, Phase: 2, Noun: 3, Second: -1, When: -1, Body: 0}, "on take(any) { }": {Verb: 1, Phase: 2, Noun: -1, Second: -1, When: -1, Body: 0}, "on take(any, any) { }": {Verb: 1, Phase: 2, Noun: -1, Second: -1, When: -1, Body: 0},
		"on take(hall, yard) { }": {Verb: 1, Phase: 2, Noun: 2, Second: 5, When: -1, Body: 0}, "on take(yard, hall) { }": {Verb: 1, Phase: 2, Noun: 5, Second: 2, When: -1, Body: 0}, "after take(key, key) { }": {Verb: 1, Phase: 3, Noun: 4, Second: 4, When: -1, Body: 0}, "before take(any, lamp) { }": {Verb: 1, Phase: 1, Noun: -1, Second: 3, When: -1, Body: 0},
		"on wait if 1 { }": {Verb: 0, Phase: 2, Noun: -1, Second: -1, When: 0, Body: 1}, "on wait if 0 { stop; }": {Verb: 0, Phase: 2, Noun: -1, Second: -1, When: 0, Body: 1}, "before go(any, key) if here == yard { }": {Verb: 2, Phase: 1, Noun: -1, Second: 4, When: 0, Body: 1}, "after take(lamp) if 1 { look; }": {Verb: 1, Phase: 3, Noun: 3, Second: -1, When: 0, Body: 1},
	} {
		got := tables(t, source(world+rule))
		check(t, rule, got.Deeds, []api.Deed{want})
		got = tables(t, source(world+rule+rule))
		again := want
		again.Body += want.Body + 1
		if want.When == 0 {
			again.When = 2
		}
		check(t, "twice "+rule, got.Deeds, []api.Deed{want, again})
		got = tables(t, source(world+`room cave "Cave" { exit up to hall if 1; } func f() { } on go { } on go if 2 { } daemon d { } `+rule))
		other := want
		other.Body += 4
		if want.When == 0 {
			other.When = 4
		}
		check(t, "behind other rules "+rule, got.Deeds, []api.Deed{{Verb: 2, Phase: 2, Noun: -1, Second: -1, When: -1, Body: 1}, {Verb: 2, Phase: 2, Noun: -1, Second: -1, When: 2, Body: 3}, other})
	}
	check(t, "no rules", len(tables(t, source(world)).Deeds), 0)
}

// TestBookConditions is 17.2: the routine of a When is a single return of the expression, without locals and params.
func TestBookConditions(t *testing.T) {
	for text, want := range map[string]api.Expr{
		"0": num(0), "lamp": num(3), "count": global(1), "time or lamp in hall": bin(1, global(0), bin(9, num(3), num(2))), "twice(noun) == number": bin(3, call(1, self(3)), self(5)), "lamp has warm": has(num(3), 5), "key.cost": prop(num(4), 1), "not yard has lit": of(not, has(num(5), 0)),
	} {
		const more = `flag wet, warm; prop size = 1; prop cost = 2; global time = 1; global count = 2; func zero() { } func twice(lamps) { return lamps; } `
		b := book(t, source(world+more+"room cave \"Cave\" { exit up to hall if "+text+"; } on wait if "+text+" { let x = 1; }"))
		back := []api.Stmt{stmt(give, 0, want)}
		check(t, "the routines with the condition "+text, b.Routines, [][]api.Stmt{back, back, {stmt(let, 0, num(1))}, nil, {stmt(give, 0, local(0))}})
		check(t, "their params", b.Tables.Params, []int{0, 0, 0, 0, 1})
		check(t, "their locals", b.Tables.Locals, []int{0, 0, 1, 0, 1})
	}
}

// TestBookFuncs is 17.2: funcs with each number of params, and daemons.
func TestBookFuncs(t *testing.T) {
	params := func(count int) string {
		return strings.Join(list(count, func(i int) string { return fmt.Sprint("p", 8-i) }), ", ")
	}
	for first := range 9 {
		for second := range 9 {
			text := fmt.Sprintf("func f(%s) { say 1; } daemon e { look; } func a(%s) { let x = 1; say x; } daemon d { let y = 2; let z = y; }", params(first), params(second))
			b := book(t, source(world+text))
			check(t, "Funcs", b.Tables.Funcs, []int{0, 1})
			check(t, "Daemons", b.Tables.Daemons, []int{2, 3})
			check(t, "Params", b.Tables.Params, []int{first, second, 0, 0})
			check(t, "Locals", b.Tables.Locals, []int{first, second + 1, 0, 2})
			check(t, "the routines", b.Routines, [][]api.Stmt{{stmt(say, 0, num(1))}, {stmt(let, second, num(1)), stmt(say, 0, local(second))}, {stmt(look, 0)}, {stmt(let, 0, num(2)), stmt(let, 1, local(0))}})
		}
	}
	for count := range 9 {
		l := list(count, func(i int) string { return fmt.Sprint("p", 8-i) })
		b := book(t, source(world+"func f("+strings.Join(l, ", ")+") { say "+strings.Join(append(l[:count:count], "7"), "; say ")+"; }"))
		check(t, "each param", b.Routines, [][]api.Stmt{append(list(count, func(i int) api.Stmt { return stmt(say, 0, local(i)) }), stmt(say, 0, num(7)))})
	}
	s := source(world)
	s.Funcs = list(64, func(i int) api.Func {
		return api.Func{Name: fmt.Sprint("f", 99-i), Params: list(i%9, func(k int) string { return fmt.Sprint("p", k) })}
	})
	s.Daemons = list(16, func(i int) api.Func { return api.Func{Name: fmt.Sprint("d", 99-i)} })
	got := tables(t, s)
	check(t, "64 funcs", got.Funcs, list(64, func(i int) int { return i }))
	check(t, "16 daemons", got.Daemons, list(16, func(i int) int { return 64 + i }))
	check(t, "their params", got.Params, append(list(64, func(i int) int { return i % 9 }), make([]int, 16)...))
	check(t, "their locals", got.Locals, got.Params)
	none := tables(t, source(world))
	check(t, "no routines", [][]int{none.Funcs, none.Daemons, none.Params, none.Locals}, make([][]int, 4))
}

// TestBookLocals is 17.2: the locals of rules, funcs and daemons.
func TestBookLocals(t *testing.T) {
	for body, want := range map[string]int{
		"": 0, "look; say 1; while 1 { } if 2 { } else { }": 0, "let a = 1;": 1, "let a = 1; let b = 2; let c = a;": 3, "each a in 1 { }": 2, "each a in 1 { } each a in 2 { }": 4, "each a in 1 { each b in a { } }": 4, "each a in 1 { let b = a; }": 3, "let a = 1; each b in a { let c = b; } let d = a;": 5,
		"if 1 { let a = 1; } else { let a = 2; }": 2, "if 1 { } else if 2 { let a = 1; } else { each a in 2 { } }": 3, "while 1 { let a = 1; while 2 { let b = a; } }": 2, "if 1 { each a in 1 { if a { let b = 1; } else { let c = 2; let d = c; } } } let a = 1;": 6, "let a = 1; if a { let b = 2; } let c = a;": 3,
		"each a in 1 { each b in 2 { each c in 3 { each d in 4 { each e in 5 { each f in 6 { each g in 7 { each h in 8 { } } } } } } } }": 16, strings.Repeat("if 1 { let a = 1; } else { let a = 2; }", 8): 16,
	} {
		for _, params := range []string{"", "p", "p1, p2, p3, p4, p5, p6, p7, p8"} {
			got := tables(t, source(fmt.Sprintf("%s on wait if 1 { %s } func fun(%s) { %s } daemon tick { %s } on go { }", world, body, params, body, body)))
			given := len(strings.Fields(params))
			check(t, "the params with "+body, got.Params, []int{0, 0, 0, given, 0})
			check(t, "the locals of "+body, got.Locals, []int{0, want, 0, given + want, want})
		}
	}
}

// TestBookOrder is 17.2: the order of all routines, whatever the order of the parts in the text.
func TestBookOrder(t *testing.T) {
	parts := []string{
		`room cave "Cave" { exit up to hall if 11; exit down to hall; exit in to hall if 12; exit north to hall if 13; } thing coin "coin" { } room shed "Shed" { exit west to hall if 14; }`, `on wait if 21 { say 22; } after go { say 23; } before take(lamp) if 24 { say 25; }`,
		`func f2() { say 31; } func f1(a) { return 32; } func f3() { say 33; }`, `daemon d3 { say 41; } daemon d1 { say 42; }`, `on go { dish.size = f1(f2()); start d1 in dish; halt d3; f3(); }`,
	}
	tens := func(numbers ...int) [][]api.Stmt {
		return list(len(numbers), func(i int) []api.Stmt {
			kind := say
			if slices.Contains([]int{11, 12, 13, 14, 21, 24, 32}, numbers[i]) {
				kind = give
			}
			return []api.Stmt{stmt(kind, 0, num(numbers[i]))}
		})
	}
	last := []api.Stmt{stmt(put, 0, num(9), call(1, call(0))), stmt(start, 1, num(9)), stmt(halt, 0), stmt(calls, 0, call(2))}
	for _, order := range permutations(5) {
		text, rules := world, [][]api.Stmt(nil)
		for _, i := range order {
			text += parts[i]
			switch i {
			case 1:
				rules = append(rules, tens(21, 22, 23, 24, 25)...)
			case 4:
				rules = append(rules, last)
			}
		}
		s := source(text + ` prop size = 1; thing dish "dish" { }`)
		b := book(t, s)
		check(t, fmt.Sprint("the routines of the order ", order), b.Routines, slices.Concat(tens(11, 12, 13, 14), rules, tens(31, 32, 33, 41, 42)))
		check(t, "Funcs", b.Tables.Funcs, []int{10, 11, 12})
		check(t, "Daemons", b.Tables.Daemons, []int{13, 14})
		check(t, "Params", b.Tables.Params, append(append(make([]int, 11), 1), 0, 0, 0))
		check(t, "the ways", [][]api.Way{b.Tables.Things[6].Ways, b.Tables.Things[8].Ways}, [][]api.Way{{{Dir: 1, To: 2, When: 2, Else: -1}, {Dir: 9, To: 2, When: 0, Else: -1}, {Dir: 10, To: 2, When: -1, Else: -1}, {Dir: 11, To: 2, When: 1, Else: -1}}, {{Dir: 4, To: 2, When: 3, Else: -1}}})
	}
}

// TestBookManyRules is 17.2: as many rules and conditions as a source can have, which are more routines than a story can have.
func TestBookManyRules(t *testing.T) {
	s := source(world)
	for i := range 100 {
		o := api.Object{Name: fmt.Sprint("r", i), Title: "r", Room: true}
		for dir := range 12 {
			o.Exits = append(o.Exits, api.Exit{Dir: 12 - dir, To: "hall", When: []api.Expr{num(1000 + i*12 + dir)}})
		}
		s.Objects = append(s.Objects, o)
	}
	for i := range 512 {
		s.Rules = append(s.Rules, api.Rule{Verb: []string{"go", "wait"}[i%2], Phase: 1 + i%3, When: []api.Expr{num(5000 + i)}, Body: []api.Stmt{stmt(say, 0, num(9000+i))}})
	}
	b := book(t, s)
	check(t, "the ways of the last room", b.Tables.Things[105].Ways, list(12, func(i int) api.Way { return api.Way{Dir: 1 + i, To: 2, When: 1199 - i, Else: -1} }))
	for i, d := range b.Tables.Deeds {
		check(t, "a rule", d, api.Deed{Verb: []int{2, 0}[i%2], Phase: 1 + i%3, Noun: -1, Second: -1, When: 1200 + 2*i, Body: 1201 + 2*i})
		check(t, "its routines", b.Routines[d.When:d.Body+1], [][]api.Stmt{{stmt(give, 0, num(5000+i))}, {stmt(say, 0, num(9000+i))}})
	}
	check(t, "how many routines there are", []int{len(b.Routines), len(b.Tables.Params), len(b.Tables.Locals), len(b.Tables.Deeds)}, []int{2224, 2224, 2224, 512})
}

// TestBookApart is 17.2: each routine numbers its locals from its params on, whatever the routines ahead of it have.
func TestBookApart(t *testing.T) {
	const bodies = `let a = 1; if a { let b = a; say b; } each c in a { let d = c; say d; } let e = a; say e;`
	want := func(first int, e api.Expr) []api.Stmt {
		return []api.Stmt{
			stmt(let, first, e), when(local(first), []api.Stmt{stmt(let, first+1, local(first)), stmt(say, 0, local(first+1))}, nil),
			loop(each, first+2, local(first), stmt(let, first+4, local(first+2)), stmt(say, 0, local(first+4))), stmt(let, first+5, local(first)), stmt(say, 0, local(first+5)),
		}
	}
	b := book(t, source(world+fmt.Sprintf("on wait { %s } on go if 1 { %s } func f(x, y) { %s } func g() { %s } func h(y, x, z) { %s } daemon tick { %s }", bodies, bodies, strings.ReplaceAll(bodies, "= 1", "= x"), bodies, strings.ReplaceAll(bodies, "= 1", "= x"), bodies)))
	check(t, "the routines", b.Routines, [][]api.Stmt{want(0, num(1)), {stmt(give, 0, num(1))}, want(0, num(1)), want(2, local(0)), want(0, num(1)), want(3, local(1)), want(0, num(1))})
	check(t, "their locals", b.Tables.Locals, []int{6, 0, 6, 8, 6, 9, 6})
	if got := kinds.Locals(block(bodies)); got != 6 {
		t.Fatal("there are", got, "locals")
	}
}
