package bind_test

import (
	"fmt"
	"slices"
	"strings"
	"testing"

	"clew/api"
	"clew/bind"
	"clew/clause"
)

// checkBlock checks what Block makes of statements with the names and the texts of base.
func checkBlock(t *testing.T, locals []string, l []api.Stmt, want ...api.Stmt) {
	t.Helper()
	got := bind.Block(made(whole()), textsOfBase(), locals, l)
	check(t, fmt.Sprintf("with the locals %v\n%s", locals, clause.PrintBlock(l, 0)), got, want)
}

// boundStmt is a statement of a source, and what it is in a book behind the locals x and y.
type boundStmt struct {
	text string
	want api.Stmt
}

// boundStmts is a statement of each kind with the names of base; those that can be in a book only are not among them.
func boundStmts() []boundStmt {
	x, y, count, lamp, hall := local(0), local(1), global(0), num(5), num(2)
	return []boundStmt{
		{`say "Gone.";`, stmt(say, 0, text(12))}, {`say 1, "Tale", title(x), x, title(lamp), "me", count, "Tale";`, stmt(say, 0, num(1), text(0), of(title, x), x, of(title, lamp), text(1), count, text(0))}, {"say y;", stmt(say, 0, y)}, {"let a = 1;", stmt(let, 2, num(1))}, {"let a = x + y;", stmt(let, 2, bin(10, x, y))},
		{"x = 1;", stmt(assign, 0, num(1))}, {"y = x;", stmt(assign, 1, x)}, {"count = 1;", stmt(assignGlobal, 0, num(1))}, {"time = y;", stmt(assignGlobal, 1, y)}, {"mood = mood + 1;", stmt(assignGlobal, 2, bin(10, global(2), num(1)))},
		{"lamp.size = 1;", stmt(put, 0, lamp, num(1))}, {"x.cost = y;", stmt(put, 1, x, y)}, {"parent(x).age = x.size;", stmt(put, 2, tree(1, x), prop(x, 0))}, {"lamp.age.cost = count;", stmt(put, 1, prop(lamp, 2), count)},
		{"set lamp is lit;", stmt(set, 0, lamp)}, {"set x is open;", stmt(set, 1, x)}, {"set lamp is box;", stmt(set, 2, lamp)}, {"set lamp is hidden;", stmt(set, 3, lamp)}, {"set lamp is wet;", stmt(set, 4, lamp)}, {"set count is worn;", stmt(set, 5, count)}, {"set y is warm;", stmt(set, 6, y)},
		{"unset lamp is lit;", stmt(unset, 0, lamp)}, {"unset lamp is hidden;", stmt(unset, 3, lamp)}, {"unset x is wet;", stmt(unset, 4, x)}, {"unset lamp is warm;", stmt(unset, 6, lamp)},
		{"move lamp to hall;", stmt(move, 0, lamp, hall)}, {"move x to y;", stmt(move, 0, x, y)}, {"remove lamp;", stmt(remove, 0, lamp)}, {"remove y;", stmt(remove, 0, y)},
		{"if x { }", when(x, nil, nil)}, {"if count { look; }", when(count, []api.Stmt{stmt(look, 0)}, nil)}, {"if 1 { } else { win; }", when(num(1), nil, []api.Stmt{stmt(win, 0)})}, {"if lamp { x = 1; } else { count = x; }", when(lamp, []api.Stmt{stmt(assign, 0, num(1))}, []api.Stmt{stmt(assignGlobal, 0, x)})},
		{"if x { } else if y { stop; } else { lose; }", when(x, nil, []api.Stmt{when(y, []api.Stmt{stmt(stop, 0)}, []api.Stmt{stmt(lose, 0)})})},
		{"while x { }", loop(while, 0, x)}, {"while count > 1 { x = y; count = 1; }", loop(while, 0, bin(7, count, num(1)), stmt(assign, 0, y), stmt(assignGlobal, 0, num(1)))},
		{"each a in x { }", loop(each, 2, x)}, {"each a in hall { say a; a = x; }", loop(each, 2, hall, stmt(say, 0, local(2)), stmt(assign, 2, x))},
		{"return x;", stmt(give, 0, x)}, {"return count;", stmt(give, 0, count)}, {"stop;", stmt(stop, 0)}, {"win;", stmt(win, 0)}, {"lose;", stmt(lose, 0)}, {"award 5;", stmt(award, 0, num(5))}, {"award y;", stmt(award, 0, y)},
		{"start tick in 5;", stmt(start, 0, num(5))}, {"start tock in x;", stmt(start, 1, x)}, {"halt tick;", stmt(halt, 0)}, {"halt tock;", stmt(halt, 1)},
		{"twice(x);", stmt(calls, 0, call(0, x))}, {"add(1, count, lamp);", stmt(calls, 0, call(1, num(1), count, lamp))}, {"zero();", stmt(calls, 0, call(2))}, {"travel 3;", stmt(travel, 0, num(3))}, {"travel x;", stmt(travel, 0, x)}, {"look;", stmt(look, 0)}, {"list hall;", stmt(lists, 0, hall)}, {"list y;", stmt(lists, 0, y)},
	}
}

// TestBlockKinds is 17.3: each kind of statement, alone, beside another one and within another one.
func TestBlockKinds(t *testing.T) {
	locals := []string{"x", "y"}
	checkBlock(t, locals, nil)
	checkBlock(t, nil, []api.Stmt{})
	for _, b := range boundStmts() {
		checkBlock(t, locals, block(b.text), b.want)
		checkBlock(t, locals, block("look; "+b.text+" win;"), stmt(look, 0), b.want, stmt(win, 0))
		checkBlock(t, locals, block("if count { "+b.text+" }"), when(global(0), []api.Stmt{b.want}, nil))
		checkBlock(t, locals, block("if x { stop; } else { look; "+b.text+" }"), when(local(0), []api.Stmt{stmt(stop, 0)}, []api.Stmt{stmt(look, 0), b.want}))
		checkBlock(t, locals, block("while y { "+b.text+" look; }"), loop(while, 0, local(1), b.want, stmt(look, 0)))
		checkBlock(t, locals, block("if 1 { while 2 { if 3 { } else { if 4 { "+b.text+" } } } }"), when(num(1), []api.Stmt{loop(while, 0, num(2), when(num(3), nil, []api.Stmt{when(num(4), []api.Stmt{b.want}, nil)}))}, nil))
		for _, other := range boundStmts() {
			if b.want.Kind != let && b.want.Kind != each {
				checkBlock(t, locals, block(b.text+other.text), b.want, other.want)
			}
		}
	}
}

// TestBlockExprs is 17.3: each kind of expression in each place of a statement.
func TestBlockExprs(t *testing.T) {
	for _, b := range boundExprs() {
		e := expr(b.text)
		for kind := say; kind <= lists; kind++ {
			for count := range 3 {
				if kind == stop || kind == win || kind == lose || kind == look || kind == halt {
					continue
				}
				s := api.Stmt{Kind: kind, Args: slices.Repeat([]api.Expr{e}, count)}
				want := stmt(kind, 0, slices.Repeat([]api.Expr{b.want}, count)...)
				switch kind {
				case let, each:
					s.Name, want.Num = "new", len(boundLocals())
				case assign:
					s.Name, want.Num = "y", 1
				case put:
					s.Name, want.Num = "age", 2
				case set, unset:
					s.Name, want.Num = "worn", 5
				case start:
					s.Name, want.Num = "tock", 1
				}
				got := bind.Block(made(whole()), textsOfBase(), boundLocals(), []api.Stmt{s})
				check(t, fmt.Sprint(b.text, " in a statement of kind ", kind), got, []api.Stmt{want})
			}
		}
	}
}

// TestBlockLets is 17.3: the Num of lets and eaches, behind those that are visible and those that are not.
func TestBlockLets(t *testing.T) {
	for text, want := range map[string]string{
		"let a = 1;": "0", "let a = 1; let b = 2; let c = 3;": "0 1 2", "each a in 1 { }": "0:", "each a in 1 { } each b in 2 { } each c in 3 { }": "0: 2: 4:", "let a = 1; each b in 2 { } let c = 3;": "0 1: 3", "each a in 1 { } let b = 2; each c in 3 { } let d = 4;": "0: 2 3: 5",
		"each a in 1 { let b = 2; }": "0:2", "each a in 1 { let b = 2; let c = 3; } let d = 4;": "0:2,3 4", "each a in 1 { each b in 2 { each c in 3 { } } }": "0:2:4:", "each a in 1 { each b in 2 { let c = 3; } let d = 4; } let e = 5;": "0:2:4,5 6", "each a in 1 { let b = 2; each c in 3 { let d = 4; } let e = 5; } each f in 6 { let g = 7; }": "0:2,3:5,6 7:9",
		"if 1 { let a = 1; }": "0", "if 1 { } else { let a = 1; }": "0", "if 1 { let a = 1; } else { let b = 2; }": "0/1", "if 1 { let a = 1; let b = 2; } else { let c = 3; let d = 4; } let e = 5;": "0,1/2,3 4", "if 1 { let a = 1; } let b = 2;": "0 1", "if 1 { } else { let a = 1; } let b = 2;": "0 1", "while 1 { let a = 1; } let b = 2;": "0 1",
		"let z = 0; if 1 { let a = 1; while 2 { let b = 2; } let c = 3; } else { each d in 4 { let e = 5; } let f = 6; } let g = 7; each h in 8 { }": "0 1,2,3/4:6,7 8 9:", "if 1 { each a in 1 { } } else { each b in 2 { } } each c in 3 { }": "0:/2: 4:", "if 1 { let a = 1; } else if 2 { let b = 2; } else { let c = 3; } let d = 4;": "0/1/2 3", "while 1 { each a in 1 { while 2 { let b = 2; } } let c = 3; } let d = 4;": "0:2,3 4",
		"if 1 { let a = 1; } if 2 { let a = 2; } else { let a = 3; } while 3 { let a = 4; } each a in 5 { } let a = 6;": "0 1/2 3 4: 6",
	} {
		for _, locals := range [][]string{nil, {"x"}, {"x", "y", "x"}, named("x", 24)} {
			numbers := strings.FieldsFunc(want, func(r rune) bool { return !strings.ContainsRune("0123456789", r) })
			var got []string
			for _, n := range numbersOf(bind.Block(nil, nil, locals, block(text))) {
				got = append(got, fmt.Sprint(n-len(locals)))
			}
			check(t, fmt.Sprintf("the numbers in %s behind %d locals", text, len(locals)), got, numbers)
		}
	}
}

// numbersOf is the Nums of the lets and eaches of statements, from left to right.
func numbersOf(l []api.Stmt) []int {
	var numbers []int
	for _, s := range l {
		if s.Kind == let || s.Kind == each {
			numbers = append(numbers, s.Num)
		}
		numbers = slices.Concat(numbers, numbersOf(s.Body), numbersOf(s.Else))
	}
	return numbers
}

// TestBlockVisible is 17.3: which local a name is.
func TestBlockVisible(t *testing.T) {
	says := func(n ...int) api.Stmt {
		return stmt(say, 0, list(len(n), func(i int) api.Expr { return local(n[i]) })...)
	}
	x := local(0)
	checkBlock(t, []string{"x"}, block("let a = x; let b = a; a = b; b = a; say x, a, b;"), stmt(let, 1, x), stmt(let, 2, local(1)), stmt(assign, 1, local(2)), stmt(assign, 2, local(1)), says(0, 1, 2))
	checkBlock(t, []string{"x"}, block("if x { let a = 1; say a, x; } else { let a = 2; a = 3; say a; } let a = 4; say a;"),
		when(x, []api.Stmt{stmt(let, 1, num(1)), says(1, 0)}, []api.Stmt{stmt(let, 2, num(2)), stmt(assign, 2, num(3)), says(2)}), stmt(let, 3, num(4)), says(3))
	checkBlock(t, []string{"x"}, block("each a in x { say a; let b = a; say b; each c in b { say a, b, c; c = a; } say a, b; } each a in x { say a; } let b = x; let c = b; say b, c;"),
		loop(each, 1, x, says(1), stmt(let, 3, local(1)), says(3), loop(each, 4, local(3), says(1, 3, 4), stmt(assign, 4, local(1))), says(1, 3)), loop(each, 6, x, says(6)), stmt(let, 8, x), stmt(let, 9, local(8)), says(8, 9))
	checkBlock(t, nil, block("while 1 { let a = 1; while a { let b = a; a = b; } a = 2; say a; } while 2 { let a = 3; say a; } let b = 4; while b { let a = b; b = a; }"),
		loop(while, 0, num(1), stmt(let, 0, num(1)), loop(while, 0, local(0), stmt(let, 1, local(0)), stmt(assign, 0, local(1))), stmt(assign, 0, num(2)), says(0)), loop(while, 0, num(2), stmt(let, 2, num(3)), says(2)), stmt(let, 3, num(4)), loop(while, 0, local(3), stmt(let, 4, local(3)), stmt(assign, 3, local(4))))
	checkBlock(t, []string{"x"}, block("let a = 1; if a { let b = 2; if b { let c = 3; say a, b, c; } else { let c = 4; say a, b, c; } say a, b; } else { let b = 5; say a, b; } say a; let b = 6; let c = 7; say a, b, c, x;"),
		stmt(let, 1, num(1)), when(local(1), []api.Stmt{stmt(let, 2, num(2)), when(local(2), []api.Stmt{stmt(let, 3, num(3)), says(1, 2, 3)}, []api.Stmt{stmt(let, 4, num(4)), says(1, 2, 4)}), says(1, 2)}, []api.Stmt{stmt(let, 5, num(5)), says(1, 5)}), says(1), stmt(let, 6, num(6)), stmt(let, 7, num(7)), says(1, 6, 7, 0))
}

// TestBlockLocals is 17.3: assignments to locals that are there twice, or that are called like a global or another name of the source.
func TestBlockLocals(t *testing.T) {
	for _, name := range []string{"a", "count", "lamp", "warm", "size", "go", "twice", "tick"} {
		for locals, want := range map[string]int{"L": 0, "L b": 0, "b L": 1, "L L": 1, "L b L b": 2, "b b L L b L L b": 6} {
			all := strings.Fields(strings.ReplaceAll(locals, "L", name))
			checkBlock(t, all, block(name+" = 7;"), stmt(assign, want, num(7)))
			checkBlock(t, all, block("if 1 { "+name+" = "+name+"; } else { let c = "+name+"; "+name+" = c; }"), when(num(1), []api.Stmt{stmt(assign, want, local(want))}, []api.Stmt{stmt(let, len(all), local(want)), stmt(assign, want, local(len(all)))}))
			checkBlock(t, all, block("set 1 is warm; unset 1 is warm; 1 .size = 2; start tick in 3; halt tick; twice(4); time = 5;"), stmt(set, 6, num(1)), stmt(unset, 6, num(1)), stmt(put, 0, num(1), num(2)), stmt(start, 0, num(3)), stmt(halt, 0), stmt(calls, 0, call(0, num(4))), stmt(assignGlobal, 1, num(5)))
		}
	}
}

// TestBlockMany is 17.3: as many statements and locals as there can be.
func TestBlockMany(t *testing.T) {
	lets := list(16, func(i int) api.Stmt {
		return api.Stmt{Kind: let, Name: fmt.Sprint("a", i), Args: []api.Expr{expr(fmt.Sprint("a", max(i-1, 0)))}}
	})
	want := list(16, func(i int) api.Stmt { return stmt(let, 8+i, local(8+max(i-1, 0))) })
	lets[0].Args, want[0].Args = []api.Expr{num(5)}, []api.Expr{num(5)}
	checkBlock(t, named("p", 8), lets, want...)
	sets := list(256, func(i int) api.Stmt {
		return api.Stmt{Kind: assign, Name: fmt.Sprint("p", 999-i%24), Args: []api.Expr{num(i)}}
	})
	checkBlock(t, named("p", 24), sets, list(256, func(i int) api.Stmt { return stmt(assign, i%24, num(i)) })...)
	inner, wantInner := block("look;"), []api.Stmt{stmt(look, 0)}
	for i := 7; i >= 0; i-- {
		name, around, e := fmt.Sprint("e", i), fmt.Sprint("e", i-1), local(2*i-1)
		if i == 0 {
			around, e = "x", local(0)
		}
		inner = block("each " + name + " in " + around + " { " + clause.Print(inner[0], 0) + " say " + name + "; }")
		wantInner = []api.Stmt{loop(each, 1+2*i, e, wantInner[0], stmt(say, 0, local(1+2*i)))}
	}
	checkBlock(t, []string{"x"}, inner, wantInner...)
	deep, wantDeep := block("let a = 1;"), []api.Stmt{stmt(let, 0, num(1))}
	for i := range 31 {
		if i%2 == 0 {
			deep, wantDeep = []api.Stmt{when(num(i), nil, deep)}, []api.Stmt{when(num(i), nil, wantDeep)}
		} else {
			deep, wantDeep = []api.Stmt{loop(while, 0, num(i), deep...)}, []api.Stmt{loop(while, 0, num(i), wantDeep...)}
		}
	}
	checkBlock(t, nil, deep, wantDeep...)
}
