package kinds_test

import (
	"fmt"
	"slices"
	"strings"
	"testing"

	"clew/api"
	"clew/kinds"
)

// parts is the parts of a source in which statements stand.
func parts() []int { return []int{partRule, partFunc, partDaemon} }

// TestBlockKinds is 16.2: statements of each kind that can stand in each part.
func TestBlockKinds(t *testing.T) {
	const each = `say "bad", title(lamp), 1, x, ""; let a = a1; let b = a; count = a; time = b; x = lamp; a = 1; lamp.size = hall; a.cost = 2; set lamp is lit; set a is worn; unset b is hidden; unset x is wet;
		move lamp to hall; remove a; if a { } if a { } else { } while a { } each c in hall { } award 1; start tick in a; start clock in 2; halt tock; halt tick; twice(a); zero(); travel a; look; list hall; win; lose;`
	for _, where := range parts() {
		checkBlock(t, where, []string{"x", "a1"}, block(each), api.OK, "")
		checkBlock(t, where, nil, nil, api.OK, "")
		checkBlock(t, where, []string{"x"}, []api.Stmt{}, api.OK, "")
	}
	checkBlock(t, partRule, []string{"x", "a1"}, block(each+"stop;"), api.OK, "")
	checkBlock(t, partFunc, []string{"x", "a1"}, block(each+"return a;"), api.OK, "")
}

// stmtAnswers is statements with a fault, where x, y and the other locals are visible.
func stmtAnswers() []answer {
	return []answer{
		{"say bad;", api.ErrNone, "bad"}, {`say "a", title(bad);`, api.ErrNone, "bad"}, {`say 1, "b", x, wet, bad;`, api.ErrKind, "wet"}, {`say "bad", "worse", size;`, api.ErrKind, "size"}, {`say title(lamp.bad), bad2;`, api.ErrNone, "bad"},
		{"let a = bad;", api.ErrNone, "bad"}, {"let a = a;", api.ErrNone, "a"}, {"let x = 1;", api.ErrTwice, "x"}, {"let add = 1;", api.ErrTwice, "add"}, {"let lit = 1;", api.ErrTwice, "lit"}, {"let wet = 1;", api.ErrTwice, "wet"}, {"let cost = 1;", api.ErrTwice, "cost"}, {"let time = 1;", api.ErrTwice, "time"}, {"let hall = 1;", api.ErrTwice, "hall"}, {"let lamp = 1;", api.ErrTwice, "lamp"}, {"let go = 1;", api.ErrTwice, "go"}, {"let twice = 1;", api.ErrTwice, "twice"}, {"let tick = 1;", api.ErrTwice, "tick"},
		{"each a in bad { }", api.ErrNone, "bad"}, {"each a in a { }", api.ErrNone, "a"}, {"each y in 1 { }", api.ErrTwice, "y"}, {"each count in 1 { }", api.ErrTwice, "count"}, {"each hidden in 1 { }", api.ErrTwice, "hidden"}, {"each warm in 1 { }", api.ErrTwice, "warm"}, {"each size in 1 { }", api.ErrTwice, "size"}, {"each mood in 1 { }", api.ErrTwice, "mood"}, {"each coin in 1 { }", api.ErrTwice, "coin"}, {"each take in 1 { }", api.ErrTwice, "take"}, {"each zero in 1 { }", api.ErrTwice, "zero"}, {"each clock in 1 { }", api.ErrTwice, "clock"},
		{"bad = 1;", api.ErrNone, "bad"}, {"lit = 1;", api.ErrKind, "lit"}, {"wet = 1;", api.ErrKind, "wet"}, {"size = 1;", api.ErrKind, "size"}, {"lamp = 1;", api.ErrKind, "lamp"}, {"yard = 1;", api.ErrKind, "yard"}, {"take = 1;", api.ErrKind, "take"}, {"twice = 1;", api.ErrKind, "twice"}, {"tick = 1;", api.ErrKind, "tick"}, {"x = bad;", api.ErrNone, "bad"},
		{"lamp.bad = 1;", api.ErrNone, "bad"}, {"lamp.x = 1;", api.ErrNone, "x"}, {"lamp.wet = 1;", api.ErrKind, "wet"}, {"lamp.count = 1;", api.ErrKind, "count"}, {"lamp.lamp = 1;", api.ErrKind, "lamp"}, {"lamp.take = 1;", api.ErrKind, "take"}, {"lamp.add = 1;", api.ErrKind, "add"}, {"lamp.tick = 1;", api.ErrKind, "tick"}, {"bad.size = 1;", api.ErrNone, "bad"}, {"lamp.size = bad;", api.ErrNone, "bad"},
		{"set lamp is bad;", api.ErrNone, "bad"}, {"set lamp is y;", api.ErrNone, "y"}, {"set lamp is size;", api.ErrKind, "size"}, {"set lamp is count;", api.ErrKind, "count"}, {"set lamp is key;", api.ErrKind, "key"}, {"set lamp is go;", api.ErrKind, "go"}, {"set lamp is twice;", api.ErrKind, "twice"}, {"set lamp is tock;", api.ErrKind, "tock"}, {"set bad is wet;", api.ErrNone, "bad"},
		{"unset lamp is bad;", api.ErrNone, "bad"}, {"unset lamp is age;", api.ErrKind, "age"}, {"unset lamp is mood;", api.ErrKind, "mood"}, {"unset lamp is hall;", api.ErrKind, "hall"}, {"unset wet is lit;", api.ErrKind, "wet"},
		{"start bad in 1;", api.ErrNone, "bad"}, {"start x in 1;", api.ErrNone, "x"}, {"start open in 1;", api.ErrKind, "open"}, {"start size in 1;", api.ErrKind, "size"}, {"start time in 1;", api.ErrKind, "time"}, {"start lamp in 1;", api.ErrKind, "lamp"}, {"start put in 1;", api.ErrKind, "put"}, {"start zero in 1;", api.ErrKind, "zero"}, {"start tick in bad;", api.ErrNone, "bad"},
		{"halt bad;", api.ErrNone, "bad"}, {"halt y;", api.ErrNone, "y"}, {"halt box;", api.ErrKind, "box"}, {"halt cost;", api.ErrKind, "cost"}, {"halt mood;", api.ErrKind, "mood"}, {"halt cave;", api.ErrKind, "cave"}, {"halt wait;", api.ErrKind, "wait"}, {"halt add;", api.ErrKind, "add"},
		{"move bad to hall;", api.ErrNone, "bad"}, {"move lamp to bad;", api.ErrNone, "bad"}, {"remove wet;", api.ErrKind, "wet"}, {"award bad;", api.ErrNone, "bad"}, {"travel bad;", api.ErrNone, "bad"}, {"list tick;", api.ErrKind, "tick"},
		{"bad(1);", api.ErrNone, "bad"}, {"x();", api.ErrNone, "x"}, {"lamp();", api.ErrKind, "lamp"}, {"twice();", api.ErrCount, "twice"}, {"zero(1);", api.ErrCount, "zero"}, {"twice(bad);", api.ErrNone, "bad"}, {"add(1, 2, twice(1, 2));", api.ErrCount, "twice"},
		{"if bad { }", api.ErrNone, "bad"}, {"if wet { } else { }", api.ErrKind, "wet"}, {"while bad { }", api.ErrNone, "bad"}, {"while lamp has bad { }", api.ErrNone, "bad"},
	}
}

// TestBlockStatements is 16.2: each fault of a statement in each part, and in each place of a list and of the lists within.
func TestBlockStatements(t *testing.T) {
	places := []string{"S", "S worse = 1;", "look; S worse = 1; lit = 2;", "look; win; S", "let q = 1; q = 2; S", "if 1 { S }", "if 1 { S worse = 1; } else { lit = 1; }", "if 1 { look; } else { S worse = 1; }", "if 1 { } else if 2 { S } else { worse = 1; }", "while 1 { look; S } worse = 1;",
		"each q in 1 { S }", "each q in hall { look; S worse = q; } worse = 1;", "if 1 { let q = 1; while q { each r in q { if r { } else { look; S win; } } } }", "if 1 { } else { let q = 1; } look; S"}
	for _, where := range parts() {
		for _, place := range places {
			for _, a := range append(stmtAnswers(), stateAnswers(where)...) {
				checkBlock(t, where, []string{"x", "y", "add"}, block(strings.ReplaceAll(place, "S", a.text)), a.err, a.name)
			}
		}
	}
}

// stateAnswers is the statements that cannot stand in that part.
func stateAnswers(where int) []answer {
	stop, back := answer{"stop;", api.ErrState, ""}, answer{"return x;", api.ErrState, ""}
	switch where {
	case partRule:
		return []answer{back}
	case partFunc:
		return []answer{stop}
	}
	return []answer{stop, back}
}

// TestBlockState is 16.2: stop can stand in a rule alone, and return in a func alone.
func TestBlockState(t *testing.T) {
	for where := -1; where <= 10; where++ {
		for text, part := range map[string]int{"stop;": partRule, "return 1;": partFunc, "while 1 { stop; }": partRule, "each e in 1 { return e; }": partFunc, "if 1 { } else { if 1 { look; stop; } }": partRule} {
			err := api.ErrState
			if where == part {
				err = api.OK
			}
			checkBlock(t, where, nil, block(text), err, "")
		}
	}
}

// TestBlockFirst is 16.2: the Args, then the statement, then its Body, then its Else, then the next statement.
func TestBlockFirst(t *testing.T) {
	for _, a := range []answer{
		{"let lamp = bad;", api.ErrNone, "bad"}, {"each lamp in bad { worse = 1; }", api.ErrNone, "bad"}, {"each lamp in 1 { worse = 1; }", api.ErrTwice, "lamp"}, {"worse = bad;", api.ErrNone, "bad"}, {"lit = bad;", api.ErrNone, "bad"},
		{"bad.worse = wet;", api.ErrNone, "bad"}, {"lamp.worse = bad;", api.ErrNone, "bad"}, {"wet.worse = bad;", api.ErrKind, "wet"}, {"set bad is worse;", api.ErrNone, "bad"}, {"unset bad is size;", api.ErrNone, "bad"}, {"start worse in bad;", api.ErrNone, "bad"}, {"return bad;", api.ErrNone, "bad"}, {"move bad to worse;", api.ErrNone, "bad"},
		{"if bad { worse = 1; } else { lit = 1; }", api.ErrNone, "bad"}, {"if 1 { worse = 1; } else { lit = 1; }", api.ErrNone, "worse"}, {"if 1 { } else { lit = 1; } worse = 1;", api.ErrKind, "lit"}, {"while bad { worse = 1; }", api.ErrNone, "bad"}, {"while 1 { worse = 1; } bad = 1;", api.ErrNone, "worse"},
		{"each a in 1 { worse = 1; } bad = 1;", api.ErrNone, "worse"}, {"bad = 1; worse = 1;", api.ErrNone, "bad"}, {"lit = 1; bad = 1; let lit = 2;", api.ErrKind, "lit"}, {"return 1; bad = 1;", api.ErrState, ""}, {"bad = 1; return 1;", api.ErrNone, "bad"}, {"while 1 { return 1; } bad = 1;", api.ErrState, ""},
		{"say wet, bad;", api.ErrKind, "wet"}, {"let x = bad; let y = worse;", api.ErrNone, "bad"}, {"let a = 1; let a = bad;", api.ErrNone, "bad"},
	} {
		checkBlock(t, partRule, []string{"x"}, block(a.text), a.err, a.name)
		checkBlock(t, partDaemon, nil, block("if 1 { "+a.text+" } else { bad3 = 1; }"), a.err, a.name)
	}
}

// TestBlockVisible is 16.2: where a local is visible, and where its name is taken.
func TestBlockVisible(t *testing.T) {
	for _, a := range []answer{
		{"let a = 1; a = 2; say a; count = a;", api.OK, ""}, {"a = 2; let a = 1;", api.ErrNone, "a"}, {"say a; let a = 1;", api.ErrNone, "a"}, {"let a = a;", api.ErrNone, "a"}, {"let a = 1; let b = a + a;", api.OK, ""}, {"let a = b; let b = 1;", api.ErrNone, "b"},
		{"let a = 1; if a { a = 2; if a { a = 3; } else { a = 4; } } else { a = 5; } while a { a = 6; } each b in a { a = b; } a = 7;", api.OK, ""},
		{"if 1 { let a = 1; a = 2; } a = 3;", api.ErrNone, "a"}, {"if 1 { let a = 1; } else { a = 2; }", api.ErrNone, "a"}, {"if 1 { } else { let a = 1; } a = 2;", api.ErrNone, "a"}, {"while 1 { let a = 1; } say a;", api.ErrNone, "a"}, {"while a { let a = 1; }", api.ErrNone, "a"}, {"if 1 { if 1 { let a = 1; } a = 2; }", api.ErrNone, "a"},
		{"if 1 { let a = 1; } let a = 2; a = 3;", api.OK, ""}, {"if 1 { let a = 1; } else { let a = 2; a = 3; } while 1 { let a = 4; } each b in 1 { let a = b; } let a = 5;", api.OK, ""}, {"if 1 { while 2 { let a = 1; } let a = 2; a = 3; } let a = 4;", api.OK, ""},
		{"each a in 1 { a = 2; say a; if a { a = 3; } }", api.OK, ""}, {"each a in 1 { } a = 2;", api.ErrNone, "a"}, {"each a in a { }", api.ErrNone, "a"}, {"a = 1; each a in 1 { }", api.ErrNone, "a"}, {"each a in 1 { } each a in 1 { } let a = 1;", api.OK, ""}, {"each a in 1 { each b in a { a = b; } b = 1; }", api.ErrNone, "b"}, {"if 1 { each a in 1 { } } else { a = 1; }", api.ErrNone, "a"},
		{"let a = 1; let a = 2;", api.ErrTwice, "a"}, {"let a = 1; let b = 1; let a = 2;", api.ErrTwice, "a"}, {"let a = 1; if 1 { let a = 2; }", api.ErrTwice, "a"}, {"let a = 1; if 1 { } else { while 2 { let a = 2; } }", api.ErrTwice, "a"}, {"let a = 1; each a in 1 { }", api.ErrTwice, "a"}, {"each a in 1 { let a = 1; }", api.ErrTwice, "a"}, {"each a in 1 { each a in 2 { } }", api.ErrTwice, "a"}, {"each a in 1 { if 1 { let a = 2; } }", api.ErrTwice, "a"}, {"each a in 1 { let b = 1; } let b = 2; let b = 3;", api.ErrTwice, "b"},
		{"if 1 { let a = 1; let b = 2; } else { let b = 1; let c = b; } let c = 1; let a = c; b = a;", api.ErrNone, "b"}, {"let a = 1; if 1 { let b = 1; let c = 2; } a = 2; let d = 1; c = d;", api.ErrNone, "c"}, {"let a = 1; if 1 { let b = 1; } let c = 2; b = 1;", api.ErrNone, "b"},
		{"let x = 1;", api.ErrTwice, "x"}, {"if 1 { each z in 1 { } }", api.ErrTwice, "z"}, {"let a = x; y = z;", api.OK, ""}, {"each a in x { } z = y; let a = 1; x = a;", api.OK, ""},
	} {
		for _, where := range parts() {
			checkBlock(t, where, []string{"x", "y", "z"}, block(a.text), a.err, a.name)
		}
	}
}

// TestBlockShadow is 16.2: a local that is called like a name of the source is assigned, also where that is no global.
func TestBlockShadow(t *testing.T) {
	for _, name := range []string{"lit", "wet", "size", "count", "lamp", "take", "twice", "tick"} {
		checkBlock(t, partRule, []string{name}, block(name+" = 1; say "+name+";"), api.OK, "")
		checkBlock(t, partRule, []string{name}, block("let "+name+" = 1;"), api.ErrTwice, name)
		checkBlock(t, partRule, []string{name}, block("set lamp is wet; lamp.size = 1; start tick in 1; halt tick; twice(1);"), api.OK, "")
	}
}

// lets is so many lets, whose names begin with that prefix.
func lets(prefix string, count int) string {
	return strings.Join(list(count, func(i int) string { return fmt.Sprintf("let %s%d = %d;", prefix, i, i) }), " ")
}

// eaches is so many eaches side by side, whose names begin with that prefix.
func eaches(prefix string, count int) string {
	return strings.Join(list(count, func(i int) string { return fmt.Sprintf("each %s%d in %d { }", prefix, i, i) }), " ")
}

// nested is so many eaches within one another, the innermost one with these statements.
func nested(prefix string, count int, inner string) string {
	for i := range count {
		inner = fmt.Sprintf("each %s%d in %d { %s }", prefix, count-1-i, i, inner)
	}
	return inner
}

// TestBlockSixteen is 16.2: 16 locals and one more.
func TestBlockSixteen(t *testing.T) {
	apart := strings.Repeat("if 1 { let a = 1; } else { let a = 2; } ", 8)
	for _, a := range []answer{
		{lets("a", 15), api.OK, ""}, {lets("a", 16), api.OK, ""}, {lets("a", 17), api.ErrCount, "a16"}, {lets("a", 18), api.ErrCount, "a16"}, {eaches("a", 8), api.OK, ""}, {eaches("a", 9), api.ErrCount, "a8"}, {nested("a", 8, ""), api.OK, ""}, {nested("a", 9, ""), api.ErrCount, "a8"}, {nested("a", 8, "let b = 1;"), api.ErrCount, "b"},
		{lets("a", 14) + eaches("b", 1), api.OK, ""}, {lets("a", 15) + eaches("b", 1), api.ErrCount, "b0"}, {lets("a", 16) + eaches("b", 1), api.ErrCount, "b0"}, {eaches("b", 1) + lets("a", 14), api.OK, ""}, {eaches("b", 1) + lets("a", 15), api.ErrCount, "a14"}, {eaches("b", 7) + lets("a", 2), api.OK, ""}, {eaches("b", 7) + lets("a", 3), api.ErrCount, "a2"}, {nested("b", 7, lets("a", 2)), api.OK, ""}, {nested("b", 7, lets("a", 1)) + lets("a", 2), api.ErrCount, "a1"},
		{apart, api.OK, ""}, {apart + "let b = 1;", api.ErrCount, "b"}, {apart + "each b in 1 { }", api.ErrCount, "b"}, {strings.Repeat("while 1 { let a = 1; } ", 17), api.ErrCount, "a"}, {strings.Repeat("each a in 1 { } ", 8), api.OK, ""}, {strings.Repeat("each a in 1 { } ", 9), api.ErrCount, "a"}, {strings.Repeat("each a in 1 { let b = a; } ", 5), api.OK, ""}, {strings.Repeat("each a in 1 { let b = a; } ", 6), api.ErrCount, "a"},
		{"if 1 { " + lets("a", 8) + " } else { " + lets("b", 8) + " }", api.OK, ""}, {"if 1 { " + lets("a", 8) + " } else { " + lets("b", 9) + " }", api.ErrCount, "b8"}, {"if 1 { " + lets("a", 16) + " } let b = 1;", api.ErrCount, "b"},
		{lets("a", 16) + "let lamp = 1;", api.ErrTwice, "lamp"}, {lets("a", 16) + "let a3 = 1;", api.ErrTwice, "a3"}, {lets("a", 16) + "each a0 in 1 { }", api.ErrTwice, "a0"}, {lets("a", 16) + "let b = bad;", api.ErrNone, "bad"}, {lets("a", 16) + "each b in bad { }", api.ErrNone, "bad"}, {lets("a", 15) + "each b in 1 { bad = 1; }", api.ErrCount, "b"}, {lets("a", 16) + "a3 = a15; bad = 1;", api.ErrNone, "bad"}, {lets("a", 17) + "bad = 1;", api.ErrCount, "a16"},
	} {
		for _, where := range parts() {
			checkBlock(t, where, nil, block(a.text), a.err, a.name)
			checkBlock(t, where, list(8, func(i int) string { return fmt.Sprintf("p%d", i) }), block(a.text), a.err, a.name)
			checkBlock(t, where, list(40, func(i int) string { return fmt.Sprintf("p%d", i) }), block("while p39 { "+a.text+" }"), a.err, a.name)
		}
	}
}

// TestBlockLocals is 16.2 and 16.3: what Locals counts is what the limit is for.
func TestBlockLocals(t *testing.T) {
	for lone := range 18 {
		for pairs := range 10 {
			l := block(lets("a", lone) + eaches("b", pairs))
			want := api.OK
			if lone+2*pairs > mostLocals {
				want = api.ErrCount
			}
			s, n := shared()
			if err, _ := kinds.Block(n, s, nil, partRule, l); err != want || kinds.Locals(l) != lone+2*pairs {
				t.Fatalf("%d lets and %d eaches: %v, and %d locals", lone, pairs, err, kinds.Locals(l))
			}
		}
	}
}

// lists is all lists of that many statements, those within others counted too, of which few are different.
func lists(size int, known map[int][][]api.Stmt) [][]api.Stmt {
	if l, ok := known[size]; ok {
		return l
	}
	var all [][]api.Stmt
	for first := 1; first <= size; first++ {
		for _, s := range stmts(first, known) {
			for _, rest := range lists(size-first, known) {
				all = append(all, append([]api.Stmt{s}, rest...))
			}
		}
	}
	known[size] = all
	return all
}

// stmts is all statements that are so many with those within.
func stmts(size int, known map[int][][]api.Stmt) []api.Stmt {
	if size == 1 {
		return append(block("let a = 1; let b = a; a = b;"), block("each a in b { } if a { }")...)
	}
	var all []api.Stmt
	for inner := range size {
		for _, body := range lists(inner, known) {
			for _, other := range lists(size-1-inner, known) {
				all = append(all, api.Stmt{Kind: 9, Args: []api.Expr{expr("1")}, Body: body, Else: other})
			}
		}
	}
	for _, body := range lists(size-1, known) {
		all = append(all, api.Stmt{Kind: 11, Name: "a", Args: []api.Expr{expr("1")}, Body: body}, api.Stmt{Kind: 11, Name: "b", Args: []api.Expr{expr("a")}, Body: body})
	}
	return all
}

// TestBlockAllLists is 16.2: all lists of up to five statements out of a few, compared with the chapter.
func TestBlockAllLists(t *testing.T) {
	s, n := shared()
	known := map[int][][]api.Stmt{0: {nil}}
	errs := map[api.Errno]int{}
	for size := range 6 {
		for i, l := range lists(size, known) {
			visible := [][]string{nil, {"b"}, {"c"}}[i%3]
			errs[checkBlockRead(t, s, n, visible, parts()[i%3], l)]++
			if i%7 == 0 {
				errs[checkBlockRead(t, s, n, []string{"b"}, partRule, slices.Concat(l, l))]++
			}
		}
	}
	if errs[api.OK] < 1000 || errs[api.ErrNone] < 1000 || errs[api.ErrTwice] < 1000 {
		t.Fatal("the lists are", errs)
	}
}
