package fold_test

import (
	"fmt"
	"testing"

	"clew/api"
	"clew/fold"
	"clew/tree"
)

// TestIf is what an if becomes, alone and among others.
func TestIf(t *testing.T) {
	for _, row := range [][2]string{
		{"if 1 { say 1; } else { say 2; }", "say 1;"}, {"if 0 { say 1; } else { say 2; }", "say 2;"},
		{"if 7 { say 1; } else { say 2; }", "say 1;"}, {"if -1 { say 1; } else { say 2; }", "say 1;"}, {"if 256 { say 1; } else { say 2; }", "say 1;"},
		{"if 1 { say 1; }", "say 1;"}, {"if 0 { say 1; }", ""}, {"if 1 { } else { say 2; }", ""}, {"if 0 { } else { say 2; }", "say 2;"}, {"if 1 { }", ""}, {"if 0 { }", ""},
		{"if 1 { say 1; say 2; say 3; } else { win; }", "say 1; say 2; say 3;"}, {"if 0 { win; } else { say 1; say 2; say 3; }", "say 1; say 2; say 3;"},
		{"if 2 > 1 { say 1; } else { win; }", "say 1;"}, {"if 2 < 1 { say 1; } else { win; }", "win;"}, {"if 1 - 1 { say 1; }", ""}, {"if not 0 { say 1; }", "say 1;"}, {"if 3 == 3 { } else { win; }", ""},
		{"if 0 and f() { say 1; } else { say 2; }", "say 2;"}, {"if 1 or f() { say 1; } else { say 2; }", "say 1;"}, {"if -(1 - 1) { win; } else { lose; }", "lose;"},
		{"look; if 1 { say 1; say 2; } win;", "look; say 1; say 2; win;"}, {"look; if 0 { say 1; } win;", "look; win;"}, {"if 0 { win; } if 1 { say 1; } if 0 { } else { say 2; } look;", "say 1; say 2; look;"},
		{"if 1 { stop; } say 1; stop;", "stop; say 1; stop;"}, {"if 1 { win; } win;", "win; win;"},
		{"if 0 { win; } say 1 + 1; if 1 - 1 { win; } a = 2 * 2;", "say 2; a = 4;"},
		{"if x { say 1 + 1; } else { say 2 + 2; }", "if x { say 2; } else { say 4; }"}, {"if x { }", "if x { }"}, {"if x { win; }", "if x { win; }"}, {"if x { } else { win; }", "if x { } else { win; }"},
		{"if x + (1 + 1) { if 1 { say 1; } } else { if 0 { } else { say 2; } }", "if x + 2 { say 1; } else { say 2; }"},
		{"if f() and 0 { win; } else { lose; }", "if f() and 0 { win; } else { lose; }"}, {"if 1 / 0 { win; } else { lose; }", "if 1 / 0 { win; } else { lose; }"}, {"if x or 1 { win; }", "if x or 1 { win; }"}, {"if 1 in 1 { win; }", "if 1 in 1 { win; }"}, {"if not x { win; }", "if not x { win; }"}, {"if x { win; } else { win; }", "if x { win; } else { win; }"},
		{"if x { if 0 { win; } } say 1;", "if x { } say 1;"}, {"if x { } else { if 1 { } } say 1;", "if x { } say 1;"},
	} {
		checkBlock(t, block(row[0]), block(row[1]))
	}
}

// TestWhile is what a while becomes.
func TestWhile(t *testing.T) {
	for _, row := range [][2]string{
		{"while 0 { say 1; }", ""}, {"while 0 { }", ""}, {"while 2 < 1 { win; }", ""}, {"while 0 and f() { win; }", ""}, {"while not 7 { win; }", ""},
		{"while 1 { say 1; }", "while 1 { say 1; }"}, {"while 1 { }", "while 1 { }"}, {"while 7 { say 1; }", "while 7 { say 1; }"}, {"while -1 { }", "while -1 { }"},
		{"while 2 > 1 { say 1 + 1; }", "while 1 { say 2; }"}, {"while 1 or f() { if 1 { win; lose; } }", "while 1 { win; lose; }"}, {"while 3 + 4 { look; }", "while 7 { look; }"},
		{"while x { say 1 + 1; }", "while x { say 2; }"}, {"while x + (1 + 1) { if 0 { win; } look; }", "while x + 2 { look; }"}, {"while x { if 0 { win; } }", "while x { }"},
		{"while x and 0 { win; }", "while x and 0 { win; }"}, {"while 0 / 0 { win; }", "while 0 / 0 { win; }"}, {"while 0 in 0 { win; }", "while 0 in 0 { win; }"},
		{"while x { while 0 { win; } while y { while 1 - 1 { lose; } look; } }", "while x { while y { look; } }"}, {"while 1 { while 0 { win; } }", "while 1 { }"}, {"while 0 { while 1 { win; } }", ""}, {"while 1 { while 1 { win; } }", "while 1 { while 1 { win; } }"},
		{"look; while 0 { win; } say 1 + 1; while 0 { } if 1 { while 0 { win; } lose; } stop;", "look; say 2; lose; stop;"}, {"while 0 { stop; } while 1 { stop; } while 0 { }", "while 1 { stop; }"},
	} {
		checkBlock(t, block(row[0]), block(row[1]))
	}
}

// TestNested is what ifs within other statements become.
func TestNested(t *testing.T) {
	for _, row := range [][2]string{
		{"if 1 { if 1 { say 1; } say 2; }", "say 1; say 2;"}, {"if 1 { say 1; if 0 { win; } else { say 2; look; } say 3; }", "say 1; say 2; look; say 3;"},
		{"if 0 { if 1 { win; } } else { if 0 { lose; } else if 1 { say 1; } }", "say 1;"}, {"if 0 { } else if 0 { } else if 0 { } else { say 1; }", "say 1;"},
		{"if x { } else if 0 { win; } else if y { say 1; } else if 1 { say 2; } else { say 3; }", "if x { } else if y { say 1; } else { say 2; }"},
		{"if x { if 1 { if y { if 0 { win; } else { look; } } } }", "if x { if y { look; } }"}, {"if 1 { if x { if 1 { say 1; say 2; } } look; }", "if x { say 1; say 2; } look;"},
		{"while x { if 1 { say 1; say 2; } if 0 { win; } }", "while x { say 1; say 2; }"}, {"each z in x { if 1 { say 1; say 2; } if 0 { win; } while 0 { } }", "each z in x { say 1; say 2; }"}, {"each z in 1 + 1 { }", "each z in 2 { }"}, {"each z in 0 { win; }", "each z in 0 { win; }"},
		{"if 1 { each z in 1 + 1 { if 0 { } else { win; } } }", "each z in 2 { win; }"}, {"if 1 { while 0 { } }", ""}, {"if x { while 0 { } } else { while 0 { win; } }", "if x { }"},
		{"if 0 { } else { each z in 2 * 2 { while 1 or x { if 0 { } else { say 1 + 1; } } } }", "each z in 4 { while 1 { say 2; } }"},
		{"if 1 { if 1 { if 1 { if 1 { say 1; } else { win; } } } }", "say 1;"},
	} {
		checkBlock(t, block(row[0]), block(row[1]))
	}
	l, inner := block("look; if x { say 3; }"), block("look; if x { say 1 + 2; }")
	for i := range 28 {
		inner = joined(block("if 0 { win; }"), []api.Stmt{when(num(i%2), times(1-i%2, "win;"), nil)}, inner)
		if i%2 == 0 {
			inner = []api.Stmt{when(num(0), nil, inner[2:])}
		} else {
			inner = []api.Stmt{when(num(3), inner[2:], nil)}
		}
	}
	checkBlock(t, inner, l)
}

// TestStatements is that the expressions of each kind of statement are folded, and that the rest of it is kept.
func TestStatements(t *testing.T) {
	for _, row := range [][2]string{
		{"say 1 + 1;", "say 2;"}, {`say "Tale", 1 + 1, title(1 + 1), x, "Hall";`, `say "Tale", 2, title(2), x, "Hall";`}, {"say 1+1, 1+2, 1+3, 1+4, 1+5, 1+6, 1+7, 1+8;", "say 2, 3, 4, 5, 6, 7, 8, 9;"},
		{"let z = 1 + 1;", "let z = 2;"}, {"x = 1 + 1; y = 2 + 2; z = x + (1 + 1);", "x = 2; y = 4; z = x + 2;"}, {"a = 1 + 1; d = 2 + 2;", "a = 2; d = 4;"},
		{"lamp.size = 1 + 1;", "lamp.size = 2;"}, {"(1 + 1).cost = not 0;", "2 .cost = 1;"}, {"(x + (1 + 1)).cost = y;", "(x + 2).cost = y;"},
		{"set 1 + 1 is lit; set 1 + 2 is warm;", "set 2 is lit; set 3 is warm;"}, {"unset 1 + 1 is lit; unset 1 + 2 is warm;", "unset 2 is lit; unset 3 is warm;"},
		{"move 1 + 1 to 2 + 2;", "move 2 to 4;"}, {"remove 1 + 1;", "remove 2;"}, {"return 1 + 1;", "return 2;"}, {"return 0 and f();", "return 0;"}, {"award 2 * 5;", "award 10;"},
		{"start tick in 1 + 1; start tock in 2 + 2;", "start tick in 2; start tock in 4;"}, {"halt tick; halt tock;", "halt tick; halt tock;"}, {"travel 1 + 1;", "travel 2;"}, {"list 1 + 1;", "list 2;"},
		{"f(); g(1 + 1); h(1 + 1, f() + (1 + 1));", "f(); g(2); h(2, f() + 2);"}, {"g(1 / 0);", "g(1 / 0);"}, {"stop; win; lose; look;", "stop; win; lose; look;"},
		{"return 1;", "return 1;"}, {"remove 0; award 0; say 0; travel 0;", "remove 0; award 0; say 0; travel 0;"},
		{"say 1 / 0, f() and 0, 0 or x;", "say 1 / 0, f() and 0, 0 or x;"}, {"each z in 1 + 1 { let z1 = 1 + 1; say z, z1; }", "each z in 2 { let z1 = 2; say z, z1; }"},
	} {
		checkBlock(t, block(row[0]), block(row[1]))
	}
	checkBlock(t, nil, nil)
	checkBlock(t, block("let p = 1; if 1 { let q = 2; say q; } let r = 3; say p, r;"), []api.Stmt{
		stmt(let, 3, num(1)), stmt(let, 4, num(2)), stmt(say, 0, api.Expr{Kind: local, Num: 4}), stmt(let, 5, num(3)), stmt(say, 0, api.Expr{Kind: local, Num: 3}, api.Expr{Kind: local, Num: 5}),
	})
}

// TestNumbers is that a statement keeps its number, and an if or a while with any number as its condition goes the right way.
func TestNumbers(t *testing.T) {
	for n := range 70 {
		for _, kind := range []int{let, assign, set, unset, start, assignGlobal} {
			check(t, fmt.Sprint("kind ", kind), fold.Block([]api.Stmt{stmt(kind, n, expr("1 + 1"))}), []api.Stmt{stmt(kind, n, num(2))})
		}
		check(t, "put", fold.Block([]api.Stmt{stmt(put, n, expr("1 + 1"), expr("2 + 2"))}), []api.Stmt{stmt(put, n, num(2), num(4))})
		check(t, "halt", fold.Block([]api.Stmt{stmt(halt, n)}), []api.Stmt{stmt(halt, n)})
		got := fold.Block([]api.Stmt{{Kind: each, Num: n, Args: []api.Expr{expr("1 + 1")}, Body: block("if 1 { win; }")}})
		check(t, "each", got, []api.Stmt{{Kind: each, Num: n, Args: []api.Expr{num(2)}, Body: block("win;")}})
	}
	won, lost, looked := block("win;"), block("lose;"), block("look;")
	for n := -32768; n <= 32767; n++ {
		got := fold.Block([]api.Stmt{when(num(n), won, lost), loop(num(n), looked...)})
		want := joined(won, []api.Stmt{loop(num(n), looked...)})
		if n == 0 {
			want = lost
		}
		check(t, fmt.Sprint("with the number ", n), got, want)
	}
}

// branches is an if of which n statements remain, whichever way it goes.
func branches(holds bool, n int) api.Stmt {
	if holds {
		return when(expr("2 > 1"), times(n, "look;"), block("say 1 + 1;"))
	}
	return when(expr("1 > 2"), block("say 1 + 1;"), times(n, "look;"))
}

// kept is what that if becomes where there is no room for its statements.
func kept(holds bool, n int) api.Stmt {
	if holds {
		return when(num(1), times(n, "look;"), block("say 2;"))
	}
	return when(num(0), block("say 2;"), times(n, "look;"))
}

// TestLimit is that an if is replaced as long as the block then has no more than 256 statements, with those behind it.
func TestLimit(t *testing.T) {
	for _, holds := range []bool{true, false} {
		for _, ahead := range []int{0, 1, 2, 100, 253, 254, 255} {
			for _, behind := range []int{0, 1, 2, 100, 155, 253, 254, 255} {
				for _, n := range []int{0, 1, 2, 3, 56, 99, 100, 101, 154, 155, 156, 254, 255, 256} {
					if ahead+1+behind > 256 {
						continue
					}
					l := joined(times(ahead, "win;"), []api.Stmt{branches(holds, n)}, times(behind, "lose;"))
					middle := times(n, "look;")
					if ahead+n+behind > 256 {
						middle = []api.Stmt{kept(holds, n)}
					}
					want := joined(times(ahead, "win;"), middle, times(behind, "lose;"))
					check(t, fmt.Sprint(holds, ahead, n, behind), fold.Block(l), want)
					check(t, fmt.Sprint(holds, ahead, n, behind, ", folded again"), fold.Block(want), want)
				}
			}
		}
	}
}

// limits is lists of statements, what they become, and what that becomes if it is folded again.
func limits() [][3][]api.Stmt {
	two, three := branches(true, 2), branches(false, 3)
	return [][3][]api.Stmt{
		// Each of the two ifs alone would fit, or the first one but not the second one, or neither.
		{joined(times(252, "win;"), []api.Stmt{two, two}), joined(times(252, "win;"), times(4, "look;")), nil},
		{joined(times(253, "win;"), []api.Stmt{two, two}), joined(times(253, "win;"), times(2, "look;"), []api.Stmt{kept(true, 2)}), nil},
		{joined(times(254, "win;"), []api.Stmt{two, two}), joined(times(254, "win;"), []api.Stmt{kept(true, 2), kept(true, 2)}), nil},
		{joined([]api.Stmt{two}, times(253, "win;"), []api.Stmt{two}), joined(times(2, "look;"), times(253, "win;"), []api.Stmt{kept(true, 2)}), nil},
		// The first one does not fit, but the second one does.
		{joined(times(253, "win;"), []api.Stmt{three, two}), joined(times(253, "win;"), []api.Stmt{kept(false, 3)}, times(2, "look;")), nil},
		{joined([]api.Stmt{three}, times(253, "win;"), []api.Stmt{two}), joined([]api.Stmt{kept(false, 3)}, times(253, "win;"), times(2, "look;")), nil},
		// Those behind count as they are: they are removed only later.
		{joined(times(254, "win;"), []api.Stmt{two}, block("while 0 { lose; }")), joined(times(254, "win;"), []api.Stmt{kept(true, 2)}), joined(times(254, "win;"), times(2, "look;"))},
		{joined(times(254, "win;"), []api.Stmt{two}, block("if 0 { lose; }")), joined(times(254, "win;"), []api.Stmt{kept(true, 2)}), joined(times(254, "win;"), times(2, "look;"))},
		{joined(times(253, "win;"), []api.Stmt{three}, block("if 1 { } while 0 { }")), joined(times(253, "win;"), []api.Stmt{kept(false, 3)}), joined(times(253, "win;"), times(3, "look;"))},
		{joined([]api.Stmt{two}, times(255, "while 0 { }")), []api.Stmt{kept(true, 2)}, times(2, "look;")},
		{joined([]api.Stmt{two}, times(254, "while 0 { }")), times(2, "look;"), nil},
		{joined([]api.Stmt{two}, times(255, "if 0 { }")), []api.Stmt{kept(true, 2)}, times(2, "look;")},
		{joined([]api.Stmt{two, two, two}, times(253, "if 0 { win; }")), []api.Stmt{kept(true, 2), kept(true, 2), kept(true, 2)}, times(6, "look;")},
		{joined([]api.Stmt{two, two, two}, times(252, "if 0 { win; }")), joined(times(2, "look;"), []api.Stmt{kept(true, 2), kept(true, 2)}), times(6, "look;")},
		// Those ahead count as they have become.
		{joined(times(254, "while 0 { }"), []api.Stmt{two, two}), times(4, "look;"), nil},
		{joined(times(255, "if 0 { win; }"), []api.Stmt{branches(true, 256)}), times(256, "look;"), nil},
		{joined(block("win; if 0 { win; }"), times(253, "win;"), []api.Stmt{two}), joined(times(254, "win;"), times(2, "look;")), nil},
		{joined(block("if 1 { win; win; win; }"), times(252, "win;"), []api.Stmt{two}), joined(times(255, "win;"), []api.Stmt{kept(true, 2)}), nil},
		// Statements that are removed from the body of an if do not count.
		{joined(times(255, "win;"), []api.Stmt{when(num(1), block("look; while 0 { } if 0 { win; }"), block("if 0 { }"))}), joined(times(255, "win;"), times(1, "look;")), nil},
		{joined(times(255, "win;"), []api.Stmt{when(num(1), block("if 1 { look; look; }"), block("if 0 { }"))}), joined(times(255, "win;"), []api.Stmt{when(num(1), times(2, "look;"), nil)}), nil},
		// At the limit what is empty or a single statement always fits.
		{joined(times(255, "win;"), block("if 1 { }")), times(255, "win;"), nil},
		{joined(block("if 1 { look; }"), times(255, "win;")), joined(block("look;"), times(255, "win;")), nil},
		{times(256, "if 0 { win; win; }"), nil, nil},
		{times(256, "if 1 { look; } else { win; win; }"), times(256, "look;"), nil},
		{times(256, "win;"), times(256, "win;"), nil},
	}
}

// TestLimits is which ifs are kept if there are several statements that are replaced.
func TestLimits(t *testing.T) {
	tables := wholeBook().Tables
	for i, row := range limits() {
		got := fold.Block(row[0])
		check(t, fmt.Sprint("row ", i), got, row[1])
		again := row[2]
		if again == nil {
			again = row[1]
		}
		check(t, fmt.Sprint("row ", i, ", folded again"), fold.Block(got), again)
		if !tree.BoundBlock(tables, row[0], 16) || !tree.BoundBlock(tables, got, 16) {
			t.Fatal("these are no statements of the book:", i)
		}
	}
}

// TestLimitWithin is that each block has its own limit.
func TestLimitWithin(t *testing.T) {
	for i, row := range limits() {
		for _, holder := range []func(l []api.Stmt) api.Stmt{
			func(l []api.Stmt) api.Stmt { return when(expr("x"), l, nil) },
			func(l []api.Stmt) api.Stmt { return when(expr("x"), nil, l) },
			func(l []api.Stmt) api.Stmt { return loop(expr("x"), l...) },
			func(l []api.Stmt) api.Stmt { return loop(num(1), l...) },
			func(l []api.Stmt) api.Stmt {
				return api.Stmt{Kind: each, Num: 3, Args: []api.Expr{expr("x")}, Body: l}
			},
		} {
			around := func(l []api.Stmt) []api.Stmt {
				return joined(times(200, "win;"), []api.Stmt{holder(l)}, times(55, "win;"))
			}
			check(t, fmt.Sprint("row ", i), fold.Block(around(row[0])), around(row[1]))
		}
		// What an if is replaced by is not folded once more, not even if an if is kept in it.
		check(t, fmt.Sprint("row ", i, " as a Body"), fold.Block([]api.Stmt{when(num(2), row[0], nil)}), row[1])
		check(t, fmt.Sprint("row ", i, " as an Else"), fold.Block([]api.Stmt{when(num(0), nil, row[0])}), row[1])
	}
	// The inner if fits into the outer one, whose statements then do not fit into the block.
	inner := []api.Stmt{branches(true, 200)}
	l := joined(times(100, "win;"), []api.Stmt{when(num(1), joined(inner, times(20, "lose;")), inner)})
	want := joined(times(100, "win;"), []api.Stmt{when(num(1), joined(times(200, "look;"), times(20, "lose;")), times(200, "look;"))})
	check(t, "an if within one that is kept", fold.Block(l), want)
	// The inner if is kept, and the outer one is replaced.
	l = []api.Stmt{when(num(1), joined([]api.Stmt{branches(false, 250)}, times(10, "lose;")), nil)}
	want = joined([]api.Stmt{kept(false, 250)}, times(10, "lose;"))
	check(t, "an if that is kept in one that is replaced", fold.Block(l), want)
}
