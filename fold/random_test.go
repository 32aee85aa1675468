package fold_test

import (
	"fmt"
	"slices"
	"testing"

	"clew/api"
	"clew/fold"
	"clew/tree"
)

// dice is a source of numbers that are the same in every run. It writes expressions and statements of the book of base.
type dice struct{ state uint64 }

func (d *dice) below(n int) int {
	d.state = d.state*6364136223846793005 + 1442695040888963407
	return int(d.state>>33) % n
}

// one is one of a list.
func one[T any](d *dice, l []T) T { return l[d.below(len(l))] }

// few is a list of from least to most elements.
func few[T any](d *dice, least, most int, element func() T) []T {
	var l []T
	for range least + d.below(most-least+1) {
		l = append(l, element())
	}
	return l
}

// number is a number, often one that matters.
func (d *dice) number() api.Expr {
	return num(one(d, []int{0, 0, 0, 1, 1, 2, 3, -1, -32768, 32767, d.below(65536) - 32768}))
}

// expr is an expression of at most that depth.
func (d *dice) expr(depth int) api.Expr {
	if depth <= 1 || d.below(6) == 0 {
		return one(d, []api.Expr{d.number(), d.number(), d.number(), {Kind: global, Num: d.below(4)}, {Kind: local, Num: d.below(16)}, {Kind: self, Op: 1 + d.below(6)}, call(0)})
	}
	below := func(count int) []api.Expr { return few(d, count, count, func() api.Expr { return d.expr(depth - 1) }) }
	switch kind := one(d, []int{neg, not, binary, binary, binary, binary, binary, binary, parts, random, has, prop, calls}); kind {
	case binary:
		return api.Expr{Kind: binary, Op: one(d, []int{or, and, 1 + d.below(14)}), Args: below(2)}
	case parts:
		return api.Expr{Kind: parts, Op: 1 + d.below(3), Args: below(1)}
	case has:
		return api.Expr{Kind: has, Num: d.below(6), Args: below(1)}
	case prop:
		return api.Expr{Kind: prop, Num: d.below(2), Args: below(1)}
	case calls:
		params := d.below(3)
		return call(params, below(params)...)
	default:
		return of(kind, below(1)...)
	}
}

// item is what a say says.
func (d *dice) item() api.Expr {
	return one(d, []api.Expr{{Kind: text, Num: d.below(3)}, of(title, d.expr(3)), d.expr(3), d.expr(3)})
}

// condition is a condition, which is often a number or becomes one.
func (d *dice) condition() api.Expr {
	return one(d, []api.Expr{num(0), num(1), d.number(), d.expr(2), d.expr(4)})
}

// stmt is a statement in which blocks are nested to that depth.
func (d *dice) stmt(depth, most int) api.Stmt {
	kind := one(d, []int{branch, branch, branch, while, while, each, 1 + d.below(23), 1 + d.below(23)})
	s := api.Stmt{Kind: kind, Args: []api.Expr{d.expr(3)}}
	inner := func() []api.Stmt { return d.block(depth-1, most) }
	switch kind {
	case say:
		s.Args = few(d, 1, 8, d.item)
	case let, assign:
		s.Num = d.below(16)
	case assignGlobal:
		s.Num = d.below(4)
	case put:
		s.Num, s.Args = d.below(2), append(s.Args, d.expr(3))
	case set, unset:
		s.Num = d.below(6)
	case move:
		s.Args = append(s.Args, d.expr(3))
	case branch:
		s.Args, s.Body, s.Else = []api.Expr{d.condition()}, inner(), inner()
	case while:
		s.Args, s.Body = []api.Expr{d.condition()}, inner()
	case each:
		s.Num, s.Body = d.below(15), inner()
	case start:
		s.Num = d.below(2)
	case halt:
		s.Num, s.Args = d.below(2), nil
	case called:
		s.Args[0] = one(d, []api.Expr{call(0), call(1, d.expr(3)), call(2, d.expr(3), d.expr(2))})
	case stop, win, lose, look:
		s.Args = nil
	}
	return s
}

// block is up to so many statements in each list.
func (d *dice) block(depth, most int) []api.Stmt {
	if depth < 1 {
		return nil
	}
	return few(d, 0, most, func() api.Stmt { return d.stmt(depth, most) })
}

// checkRuns is 18.3 for one routine.
func checkRuns(t *testing.T, l, folded []api.Stmt) {
	t.Helper()
	before, after := executed(l, 60), executed(folded, 60)
	if before.end == "fuel" {
		return
	}
	if !alike(before, after) || after.cost > before.cost {
		t.Fatalf("%+v\nbecomes\n%+v\nand is executed as %+v, not as %+v", l, folded, after, before)
	}
}

// checkFolded compares Block with the chapter, and is 18.3 for what it answers.
func checkFolded(t *testing.T, l []api.Stmt) {
	t.Helper()
	tables := wholeBook().Tables
	if !tree.BoundBlock(tables, l, 16) {
		t.Fatalf("these are no statements of the book: %+v", l)
	}
	got := fold.Block(l)
	if !tree.SameBlock(got, readBlock(l)) {
		t.Fatalf("%+v\nbecomes\n%+v\nnot\n%+v", l, got, readBlock(l))
	}
	if !tree.BoundBlock(tables, got, 16) {
		t.Fatalf("%+v\nbecomes what is not of a book:\n%+v", l, got)
	}
	if !keeps(got) && !tree.SameBlock(fold.Block(got), got) {
		t.Fatalf("%+v\nis changed when it is folded again", got)
	}
	checkRuns(t, l, got)
}

// TestRandomExpr compares Expr with the chapter for expressions at random, and is 18.3 for them.
func TestRandomExpr(t *testing.T) {
	d := &dice{state: 1}
	tables, numbers := wholeBook().Tables, 0
	for i := range 200000 {
		e := d.expr(1 + i%7)
		got := fold.Expr(e)
		if want := readExpr(e); !tree.Same(got, want) {
			t.Fatalf("%+v\nbecomes\n%+v\nnot\n%+v", e, got, want)
		}
		if !tree.Bound(tables, e, 16) || !tree.Bound(tables, got, 16) {
			t.Fatalf("%+v\nor\n%+v\nis no expression of the book", e, got)
		}
		if !tree.Same(fold.Expr(got), got) {
			t.Fatalf("%+v\nis changed when it is folded again", got)
		}
		before, ran := valued(e)
		after, again := valued(got)
		if before != after || !alike(ran, again) {
			t.Fatalf("%+v\nhas the value %d, but\n%+v\nhas %d", e, before, got, after)
		}
		if e.Kind != 1 && got.Kind == 1 {
			numbers++
		}
	}
	if numbers < 10000 {
		t.Error("too few expressions became numbers:", numbers)
	}
}

// TestRandomBlock compares Block with the chapter for statements at random.
func TestRandomBlock(t *testing.T) {
	d := &dice{state: 2}
	kept, ended := 0, 0
	for i := range 20000 {
		l := d.block(1+i%4, 5)
		checkFolded(t, l)
		if same(fold.Block(l), l) {
			kept++
		}
		if executed(l, 60).end != "fuel" {
			ended++
		}
	}
	if kept > 10000 || ended < 7000 {
		t.Error("of 20000 routines, these are kept and end:", kept, ended)
	}
}

// TestRandomLimit compares Block with the chapter for blocks of about 256 statements.
func TestRandomLimit(t *testing.T) {
	d := &dice{state: 3}
	kept := 0
	for i := range 1000 {
		l := times(200+d.below(50), "look;")
		for len(l) < 256 && (i%2 == 0 || d.below(20) > 0) {
			holds := d.below(2) == 0
			s := one(d, []api.Stmt{branches(holds, d.below(6)), branches(holds, d.below(2)), branches(holds, 0), loop(num(0)), when(num(1), []api.Stmt{branches(holds, 2), branches(!holds, 1)}, nil)})
			l = slices.Insert(l, d.below(len(l)+1), s)
		}
		checkFolded(t, l)
		if keeps(fold.Block(l)) {
			kept++
		}
	}
	if kept < 100 || kept > 900 {
		t.Error("of 1000 blocks, some of the ifs are kept in", kept)
	}
}

// TestAllExprs compares Expr with the chapter for every expression of a few operands, with up to three operators.
func TestAllExprs(t *testing.T) {
	level := []api.Expr{num(0), num(1), num(-32768), num(3), call(0)}
	two := slices.Clone(level)
	combine := func(left, right []api.Expr) []api.Expr {
		var l []api.Expr
		for _, a := range left {
			l = append(l, of(not, a), of(neg, a), of(random, a))
			for _, b := range right {
				for op := or; op <= mod; op++ {
					l = append(l, bin(op, a, b))
				}
			}
		}
		return l
	}
	two = append(two, combine(level, level)...)
	for _, e := range combine(two, two) {
		if got, want := fold.Expr(e), readExpr(e); !tree.Same(got, want) {
			t.Fatalf("%+v\nbecomes\n%+v\nnot\n%+v", e, got, want)
		}
	}
}

// TestAllBlocks compares Block with the chapter for every list of up to two statements out of a few, nested to the depth 3.
func TestAllBlocks(t *testing.T) {
	pairs := func(l []api.Stmt) [][]api.Stmt {
		all := [][]api.Stmt{nil}
		for _, a := range l {
			all = append(all, []api.Stmt{a})
			for _, b := range l {
				all = append(all, []api.Stmt{a, b})
			}
		}
		return all
	}
	x := expr("x")
	nested := func(inner [][]api.Stmt) []api.Stmt {
		var l []api.Stmt
		for i, body := range inner {
			other := inner[(i*7+3)%len(inner)]
			l = append(l, when(num(0), body, other), when(num(1), body, other), when(x, body, other), loop(num(0), body...), loop(x, body...))
		}
		return l
	}
	for i, l := range pairs(nested(pairs(nested([][]api.Stmt{nil, block("say 1 + 1;")})))) {
		if got, want := fold.Block(l), readBlock(l); !tree.SameBlock(got, want) {
			t.Fatalf("%+v\nbecomes\n%+v\nnot\n%+v", l, got, want)
		}
		if i%16 == 0 {
			checkFolded(t, l)
		}
	}
}

// TestAllLimits compares Block with the chapter for every list of up to four statements out of a few, behind as many as leave room for a few more.
func TestAllLimits(t *testing.T) {
	next := []api.Stmt{branches(true, 0), branches(false, 1), branches(true, 2), branches(false, 3), loop(num(0)), stmt(look, 0)}
	for room := range 4 {
		var extend func(l []api.Stmt, left int)
		extend = func(l []api.Stmt, left int) {
			ahead := times(256-len(l)-room, "win;")
			for _, whole := range [][]api.Stmt{joined(ahead, l), joined(l, ahead)} {
				if got, want := fold.Block(whole), readBlock(whole); !tree.SameBlock(got, want) {
					t.Fatal(fmt.Sprintf("%d statements and %+v", len(ahead), l), "become", got, "not", want)
				}
			}
			for _, s := range next {
				if left > 0 {
					extend(append(slices.Clone(l), s), left-1)
				}
			}
		}
		extend(nil, 4)
	}
}
